import Derived.Test.YtcbcenfjigcfkaaGreatDoorK46
import Derived.Test.YtcbcenfjigcfkaaGreatDoorK47
set_option maxRecDepth 100000
set_option maxHeartbeats 40000000
namespace Go.Proofs.YtcbcenfjigcfkaaGreatDoor
open Go.RowKit
theorem X8 {I B:World} (h:V I B):V I B∧(∀bw o,bw<I.heap.size->B.cell? ⟨bw,o,none⟩=I.cell? ⟨bw,o,none⟩):=⟨h,fun bw o D=>h.cell (p:=⟨bw,o,none⟩) D⟩
theorem auA {I a b:World} (h:V I a∧(∀bw o,bw<I.heap.size->a.cell? ⟨bw,o,none⟩=I.cell? ⟨bw,o,none⟩)) (D:V a b):V I b∧(∀bw o,bw<I.heap.size->b.cell? ⟨bw,o,none⟩=I.cell? ⟨bw,o,none⟩) :=
 X8 (h.1.trans (D.mono h.1.size))
structure mp where
 a:Option Addr
 c:Nat
 l:List Bool
def mp.cells (t:mp):List Value:=[.slice t.a t.l.length t.c]
structure abp (Y:Nat) (w:World) (a:Option Addr) (dq:List mp):Prop where
 row:cm Y w a 1 (dq.map mp.cells)
 each:∀t,t∈dq->cm Y w t.a 1 (t.l.map Ac)
 len:dq.length<=5864062014805
structure g3 where
 v:Value
 l:List Bool
def sx (a b:Value):Prop:=∀x,a.ownBlock=some x->b.ownBlock≠some x
theorem iJ.blk {w:World} {v:Value} {l:List Bool} (h:iJ w v l):∀x,v.ownBlock=some x->x<w.heap.size:=by
 intro x J;rcases h with ⟨rfl,_⟩ | ⟨b,o,c,rfl,aB,_⟩
 ·cases J
 ·cases J;exact aB
theorem iJ.kept {w B:World} {v:Value} {l:List Bool} {row:Option Nat} (h:iJ w v l) (af:w.grownBy B row) (cb:∀x,row=some x->v.ownBlock≠some x):iJ B v l:=by
 rcases h with h | ⟨b,o,c,rfl,aB,ar⟩
 ·exact .inl h
 ·refine .inr ⟨b,o,c,rfl,bk aB af.size,fun i x J=>?_⟩;refine(dA (w:=w) (a:=⟨b,o+i,none⟩) (af.block b aB ?_)).trans (ar i x J);intro e;exact cb b e.symm rfl
theorem sx.new {w:World} {a b:Value} {l:List Bool} (h:sx a b) (D:iJ w b l) {g H m cap:Nat} (af:a.ownBlock=some g∨g=H) (QE:w.heap.size<=H):sx (.slice (some ⟨g,0,none⟩) m cap) b:=by
 intro x J;have e:g=x:=by cases J;rfl
 subst e;rcases af with af | af
 ·exact h g af
 ·intro bH
  have:=D.blk g bH
  omega
theorem UK {w B:World} {C e qo n m EM:Nat} {a b:Value} {xs ol:List Value} (ad:w.ownsRow C e 1 a n xs) (D:B.ownsRow EM qo 1 b m ol) (eu:w.heap.size<=EM):sx a b:=by
 intro x J aF;have F:=(ad.lt x J).2;have O:=(D.lt x aF).1;omega
theorem am3 (Y:Nat) (w:World) (S:jm) (G:eq) (h:iB Y w S G) (aM:Y<=w.heap.size) (hs:G.small) (ad:LQ G) (Au:PM G (1+G.ins.toNat+G.lats.length+G.ands.length)) (Im:PW G (1+G.ins.toNat+G.lats.length+G.ands.length)) (nA:Option Addr) (nB:Nat) (dq:List mp) (eg:abp Y w nA dq) :
  Calls Tryz.prog 13 #[.agg (S.cells G),.slice nA dq.length nB] w fun e B=>∃v,∃rows:List g3,e = .returned v∧B.ownsRow w.heap.size 82 1 v dq.length (rows.map g3.v)∧rows.map g3.l=runN G (dq.map mp.l) (tu G)∧(∀r,r∈rows->iJ B r.v r.l)∧V w B:=by
 have Uc:Hid (∀B,V w B->Calls Tryz.prog 32 #[.agg (S.cells G)] B fun e bs=>∃v,e = .returned v∧bs.ownsRow B.heap.size 4 1 v G.lats.length ((tu G).map gi)∧V B bs):=fun B aV=>auQ Y B S G (h.to (aV.mono aM)) (bL aM aV.size)
 have aj5:Hid (∀B,V w B->∀(t:mp),t∈dq->∀(dB:List Bool),dB.length=G.lats.length->∀uR,iJ B uR dB->Calls Tryz.prog 33 #[.agg (S.cells G),.slice t.a t.l.length t.c,uR] B fun e bs=>∃vd iW,e = .returned (.tuple #[vd,iW])∧bs.ownsRow B.heap.size 4 1 vd G.lats.length ((vI G (l7 G t.l dB)).map gi)∧bs.ownsRow B.heap.size 4 1 iW G.outs.length ((zC G (l7 G t.l dB)).map gi)∧V B bs) :=
  fun B aV t F1 dB ik uR yH=>arL Y B S G (h.to (aV.mono aM)) (bL aM aV.size) hs ad Au Im t.l dB ik t.a t.c ((eg.each t F1).to (aV.mono aM)) uR yH
 have jp:Hid (cm Y w nA 1 (dq.map mp.cells)):=eg.row;have aU:=eg.len;have G3:Hid ((tu G).length=G.lats.length):=by show _=_;unfold tu;simp
 obtain⟨AE,EW⟩:∃AE,Hid (tu G=AE):=⟨_,rfl⟩
 rw[EW.out] at Uc G3 ⊢;unfold jm.cells at *;clear ad Au Im hs eg;obtain⟨eE,ek,i1,jU,f0⟩:=aeE
 change Hid _ at ek i1 jU f0
 go_enter Tryz.func13,Tryz.ntmps13
 go_upto_region 1 with fail
 generalize av:World.alloc w _=I;have aD:Hid (V w I):=by rw[<-av];exact(ax _ _).alloc (aL _) _
 have a8:w.heap.size<I.heap.size:=by rw[<-av];simp
 have iC:Hid (o9 I w.heap.size S G):=by
  rw[<-av];exact⟨by simp,by simp,by simp,by simp,by simp⟩
 have hU:Hid (iB Y I S G):=h.to (aD.mono aM);have gE:Y<=I.heap.size:=bL aM aD.size;clear av h;have gq:=iC.c0;have cy:=iC.c1;have eX:=iC.c2;have fH:=iC.c3;go_wp2_with (go_at_call 32;refine(Uc _ aD).mono ?_;rintro e aC ⟨v,rfl,NQ,H5⟩;have fE:=K H5;have xb:=K (iJ.of NQ);clear NQ H5)
 clear gq cy eX fH Uc;go_loopw [5,6,7] (fun uR all aq B=>∃(k:Nat) (rows:List g3),k<=dq.length∧aq = .int .i64 k∧Hid (iJ B uR (ED G AE ((dq.take k).map mp.l)))∧Hid (B.ownsRow I.heap.size 82 1 all k (rows.map g3.v))∧Hid (rows.map g3.l=runN G ((dq.take k).map mp.l) AE)∧Hid (∀r,r∈rows->iJ B r.v r.l∧sx all r.v)∧Hid (sx all uR)∧Hid (V I B)) (fun _ _ aq _=>dq.length - (intOf aq).toNat)
 case atStart =>
  exact⟨0,[],cE _,rfl,xb.out,k8 _ _ _ _,rfl,fun r ak=>by simp at ak,fun x J=>(by cases J),fE⟩
 case round =>
  obtain⟨k,rows,X,rfl,PD,a6,yk,mU,Me,au⟩:=hrel;have Am:w.heap.size<wr.heap.size:=bk a8 au.size;have gq:=(au.cell (p:=⟨w.heap.size,0,none⟩) a8).trans iC.c0;have cy:=(au.cell (p:=⟨w.heap.size,1,none⟩) a8).trans iC.c1;have eX:=(au.cell (p:=⟨w.heap.size,2,none⟩) a8).trans iC.c2;have fH:=(au.cell (p:=⟨w.heap.size,3,none⟩) a8).trans iC.c3;by_cases aB:k<dq.length
  ·obtain⟨t,ao⟩:=bS aB;obtain⟨EF,agz,bQ,NZ,F0⟩:=(jp.to (aD.mono aM)).el ao;have apn:EF<wr.heap.size:=bk (bk NZ gE) au.size;have c0:wr.cell? ⟨EF,agz+k,none⟩=some (.slice t.a t.l.length t.c):=(au.cell (p:=⟨EF,agz+k,none⟩) (bk NZ gE)).trans (by have:=F0 0 _ rfl;simpa using this);subst bQ;have fa:(k:Int)<(dq.length:Int):=by omega
   have bM:=bF ((k:Int)+1);obtain⟨dB,eC⟩:∃dB,Hid (ED G AE ((dq.take k).map mp.l)=dB):=⟨_,rfl⟩
   have pv:dB.length=G.lats.length:=by rw[<-eC.out];exact auO G _ _ G3
   have aaJ:Hid (iJ wr u5 dB):=by have:=PD.out;rwa [eC.out] at this
   have rj:Hid (ED G AE ((dq.take (k+1)).map mp.l)=vI G (l7 G t.l dB)):=by
    show _=_;rw[gM _ k t ao,g1,show[t].map mp.l=[t.l] from rfl,auP,eC.out]
   have yi:Hid (runN G ((dq.take (k+1)).map mp.l) AE=runN G ((dq.take k).map mp.l) AE++[zC G (l7 G t.l dB)]):=by
    show _=_;rw[gM _ k t ao,g1,show[t].map mp.l=[t.l] from rfl,auw,eC.out]
   have abf:Hid (∀B,V wr B->Calls Tryz.prog 33 #[.agg #[.int .i64 G.ins,.slice S.a1 G.lats.length S.c1,.slice S.a2 G.ands.length S.c2,.slice S.a3 G.outs.length S.c3],.slice t.a t.l.length t.c,u5] B fun e bs=>∃vd iW,e = .returned (.tuple #[vd,iW])∧bs.ownsRow B.heap.size 4 1 vd G.lats.length ((vI G (l7 G t.l dB)).map gi)∧bs.ownsRow B.heap.size 4 1 iW G.outs.length ((zC G (l7 G t.l dB)).map gi)∧V B bs) :=
    fun B aV=>aj5 B (aD.trans ((au.trans (aV.mono au.size)).mono aD.size)) t (bn ao) dB pv u5 (aaJ.to aV)
   clear ao F0 PD;generalize vI G (l7 G t.l dB)=cF at *;generalize zC G (l7 G t.l dB)=k4 at *;generalize t.l.length=avb at *;generalize t.a=au6 at *;generalize t.c=au7 at *;go_wp2_with fail
   go_region_held3 (fun B=>V wr B∧(∀bw o,bw<wr.heap.size->B.cell? ⟨bw,o,none⟩=wr.cell? ⟨bw,o,none⟩))
    (first|assumption|exact X8 (ax _ _)|exact X8 (ax _ _).drew|exact auA (by assumption) (by assumption))
    (first|(go_at_call 33;refine(abf _ (And.left (by assumption))).mono ?_;rintro e w2 ⟨vd,iW,rfl,j3,B9,bH⟩))
   all_goals
    obtain⟨hD,n2,BC,qi,cg⟩:∃hD:World,Hid (V wr hD)∧Hid (w2.ownsRow hD.heap.size 4 1 vd G.lats.length (cF.map gi))∧Hid (w2.ownsRow hD.heap.size 4 1 iW G.outs.length (k4.map gi))∧Hid (V hD w2):=by
     refine⟨_,?_,j3,B9,bH⟩
     first|exact And.left (by assumption)|exact(ax _ _).drew|exact ax _ _
    clear j3 B9 bH;obtain⟨kH,me,N2,-⟩:=(iJ.of qi).row;subst N2;have nY:Hid (V wr w2):=n2.trans (cg.mono n2.size);have tc:Hid (w2.ownsRow I.heap.size 82 1 u6 k (rows.map g3.v)):=mx a6 nY;have Hh:Hid (∀r,r∈rows->iJ w2 r.v r.l∧sx u6 r.v):=fun r ak=>⟨(mU r ak).1.to nY.out,(mU r ak).2⟩
    have jn:Hid (sx u6 vd):=UK a6 BC n2.size;have Md:Hid (sx u6 (.slice kH k4.length me)):=UK a6 qi n2.size;have Pf:Hid (iJ w2 vd cF):=iJ.of BC;have L8:Hid (iJ w2 (.slice kH k4.length me) k4):=iJ.of qi;have ym:Hid (V I w2):=au.trans (nY.mono au.size);have gY:=ym.size;have cn:k+1<=maxLen:=by simp only[maxLen];omega
    have cq:(k+1)*24<=140737488355328:=by omega
    have cJ:I.heap.size<=(w2.alloc (.cells #[.slice kH k4.length me] 82)).heap.size:=by simp;omega
    clear BC qi n2 cg nY a6 mU abf gq cy eX fH c0 aaJ;have tok:True:=trivial;go_wp2_with (have _t:=tok;at_builtin;(refine wpList_append_lies _ rfl (.tmp 28) (.tmp 30) 47 rfl I.heap.size 82 eE _ 1 24 Tryz.underlying47 ek i1 jU f0 rfl (by decide) u6 k _ rfl (tc.alloc _) ⟨w2.heap.size,0,none⟩ 1 1 [.slice kH k4.length me] rfl rfl (i5 (h8 _ _)) (by simp[Value.oneCell']) (by decide) cn cq cJ _ rfl ?_;intro g cap al bc br kX cj;clear tok))
    have oq:Hid (∀v l,iJ w2 v l->sx u6 v->iJ al v l∧sx (.slice (some ⟨g,0,none⟩) (k+1) cap) v):=fun v l L ah=>by
     have hS:iJ (w2.alloc (.cells #[.slice kH k4.length me] 82)) v l:=L.to ((ax _ _).alloc (aL _) _);exact⟨hS.kept br ah,ah.new hS kX (aL _)⟩
    have i8:Hid (al.ownsRow I.heap.size 82 1 (.slice (some ⟨g,0,none⟩) (k+1) cap) (k+1) ((rows++[(g3.mk (.slice kH k4.length me) k4)]).map g3.v)):=by
     show World.ownsRow _ _ _ _ _ _ _;rw[g1];exact bc
    have cV:Hid (V I al):=us ym tc br;have Hg:Hid (∀r,r∈rows++[(g3.mk (.slice kH k4.length me) k4)]->iJ al r.v r.l∧sx (.slice (some ⟨g,0,none⟩) (k+1) cap) r.v):=by
     intro r ak;rcases o7.1 ak with ak | ak
     ·exact oq _ _ (Hh r ak).1 (Hh r ak).2
     ·rw[List.mem_singleton.1 ak];exact oq _ _ L8 Md
    have BD:=K (oq _ _ Pf jn);have Tp:Hid ((rows++[(g3.mk (.slice kH k4.length me) k4)]).map g3.l=runN G ((dq.take (k+1)).map mp.l) AE):=by
     show _=_;rw[g1,yi.out,yk.out];rfl
    have xe:Hid (iJ al vd (ED G AE ((dq.take (k+1)).map mp.l))):=by
     show iJ _ _ _;rw[rj.out];exact BD.1
    clear bc br kX cj cn cq cJ tc ym oq yk yi rj L8 Md Pf jn Hh Me au;go_wp2;go_roundw
    case measure=>simp[intOf];omega
    exact⟨k+1,_,by omega,by simp,xe.out,i8.out,Tp.out,Hg.out,BD.2,cV⟩
  ·have cQ:¬((k:Int)<(dq.length:Int)):=by omega
   have hM:Hid (wr.ownsRow I.heap.size 82 1 u6 dq.length (rows.map g3.v)):=by
    have:=a6.out
    rwa [show k=dq.length by omega] at this
   have oP:Hid (rows.map g3.l=runN G (dq.map mp.l) AE):=by
    have:=yk.out
    rwa [fQ (by omega)] at this
   clear a6 yk;go_wp2;go_ret
   exact⟨_,rfl,rows,xN hM aD.size,oP.out,fun r ak=>(mU r ak).1,aD.trans (au.mono aD.size)⟩
theorem auy (w:World) (a1 a2:Option Addr) (c1 c2:Nat) (l:List Bool) (hl:l.length<cd) (Hv:Hid (cm w.heap.size w a1 1 (l.map Ac))) (Hw:Hid (cm w.heap.size w a2 1 (l.map Ac))) :
  Calls Tryz.prog 36 #[.slice a1 l.length c1,.slice a2 l.length c2] w fun e B=>e = .returned (.bool true)∧∃q,B=w.drewN q:=by
 simp only[cd] at hl;go_enter Tryz.func36,Tryz.ntmps36
 go_wp2_with fail
 go_loopw [5] (fun aq B=>∃(k:Nat),k<=l.length∧aq = .int .i64 k∧Hid (∃q,B=w.drewN q)) (fun aq _=>l.length - (intOf aq).toNat)
 case atStart=>exact⟨0,cE _,rfl,⟨0,rfl⟩⟩
 case round =>
  obtain⟨k,X,rfl,iY⟩:=hrel;obtain⟨q,rfl⟩:=iY.out;by_cases aB:k<l.length
  ·obtain⟨x,J⟩:=bS aB;obtain⟨d1,co,rfl,-,Qd⟩:=Sh Hv J;obtain⟨d2,hI,rfl,-,Qe⟩:=Sh Hw J;have fa:(k:Int)<(l.length:Int):=by omega
   have bM:=bF ((k:Int)+1);clear J iY;cases x
   ·go_wp2_with fail
    go_quiet (fail)
    go_wp2;go_roundw
    case measure=>simp[intOf];omega
    exact⟨k+1,by omega,by simp,⟨_,rfl⟩⟩
   ·go_wp2_with fail
    go_quiet (fail)
    go_wp2;go_roundw
    case measure=>simp[intOf];omega
    exact⟨k+1,by omega,by simp,⟨_,rfl⟩⟩
  ·have cQ:¬((k:Int)<(l.length:Int)):=by omega
   clear iY;go_wp2;go_ret
   exact⟨rfl,_,rfl⟩
def z8 (w:World) (a:Option Addr) (rows:List g3):Prop:=∀(i:Nat) (r:g3),rows[i]?=some r->∃b o,a=some ⟨b,o,none⟩∧b<w.heap.size∧w.cell? ⟨b,o+i,none⟩=some r.v∧iJ w r.v r.l
theorem auz (w:World) (a1 a2:Option Addr) (c1 c2:Nat) (ra bG:List g3) (n:Nat) (mb:ra.length=n) (j3:bG.length=n) (hl:n<cd) (kv:Hid (z8 w a1 ra)) (jX:Hid (z8 w a2 bG)) (ez:Hid (ra.map g3.l=bG.map g3.l)) (oY:∀r,r∈ra->r.l.length<cd) :
  Calls Tryz.prog 17 #[.slice a1 n c1,.slice a2 n c2] w fun e B=>e = .returned (.bool true)∧∃q,B=w.drewN q:=by
 simp only[cd] at hl;go_enter Tryz.func17,Tryz.ntmps17
 go_wp2_with fail
 go_loopw [5] (fun aq B=>∃(k:Nat),k<=n∧aq = .int .i64 k∧Hid (∃q,B=w.drewN q)) (fun aq _=>n - (intOf aq).toNat)
 case atStart=>exact⟨0,cE _,rfl,⟨0,rfl⟩⟩
 case round =>
  obtain⟨k,X,rfl,iY⟩:=hrel;have sy:Hid (V w wr):=by obtain⟨q,rfl⟩:=iY.out;exact Below.drewN (ax _ _) _
  by_cases aB:k<n
  ·obtain⟨io,Io⟩:∃r,ra[k]?=some r:=bS (by omega);obtain⟨jM,FY⟩:∃r,bG[k]?=some r:=bS (by omega);obtain⟨d1,co,rfl,kD,Qd,b1⟩:=kv k io Io;obtain⟨d2,hI,rfl,lI,Qe,b2⟩:=jX k jM FY;have el:io.l=jM.l:=by
    have:=congrArg (fun l=>l[k]?) ez
    simpa[Io,FY] using this
   have rz:=oY io (bn Io);rw[<-el] at b2;obtain⟨dC,iA,bp,w1⟩:=b1.row;obtain⟨en,jW,aS,w2⟩:=b2.row
   replace Qd:=(sy.cell (p:=⟨d1,co+k,none⟩) kD).trans Qd
   replace Qe:=(sy.cell (p:=⟨d2,hI+k,none⟩) lI).trans Qe
   rw[bp] at Qd;rw[aS] at Qe;have akg:Hid (∀v,V w v->Calls Tryz.prog 36 #[.slice dC io.l.length iA,.slice en io.l.length jW] v fun e B=>e = .returned (.bool true)∧∃q,B=v.drewN q):=fun v L=>auy v dC en iA jW io.l rz ((w1.to L).mono L.size) ((w2.to L).mono L.size)
   generalize io.l.length=ln at *;have fa:(k:Int)<(n:Int):=by omega
   have bM:=bF ((k:Int)+1);clear Io FY el b1 b2 w1 w2 bp aS rz kD lI;go_wp2_with fail
   go_quiet ((go_at_call 36;exact Calls.quiet_of (akg _ (Below.drewN sy _))))
   go_wp2;go_roundw
   case measure=>simp[intOf];omega
   case rel =>
    obtain⟨q,aJ⟩:=iY.out;exact⟨k+1,by omega,by simp,⟨q+nq,by rw[aJ,World.drewN_drewN]⟩⟩
  ·have cQ:¬((k:Int)<(n:Int)):=by omega
   go_wp2;go_ret
   exact⟨rfl,iY⟩
def Hy (w:World) (a:Option Addr) (ls:List (List Nat)):Prop:=∀(i:Nat) (l:List Nat),ls[i]?=some l->∃b o v,a=some ⟨b,o,none⟩∧b<w.heap.size∧w.cell? ⟨b,o+i,none⟩=some v∧(∃c d,v = .slice c l.length d∧cm w.heap.size w c 1 (l.map k6))∧∀x,x∈l->x<18446744073709551616
theorem abN (w:World) (ra:Option Addr) (OC:Nat) (ls:List (List Nat)) (Hv:Hy w ra ls) (hl:ls.length<=5864062014805) (mA:Option Addr) (wc:Nat) (ws:List Int) (Hw:cm w.heap.size w mA 1 (ws.map j4)) (hg:∀x,x∈ws->0<=x∧x<=64) (mM:ws.length<=1048576) :
    Calls Tryz.prog 14 #[.slice ra ls.length OC,.slice mA ws.length wc] w fun e B=>∃v,∃rows:List g3,e = .returned v∧B.ownsRow w.heap.size 82 1 v ls.length (rows.map g3.v)∧rows.map g3.l=ls.map (fun l=>iE l ws)∧(∀r,r∈rows->iJ B r.v r.l)∧V w B:=by
  obtain⟨eE,ek,i1,jU,f0⟩:=aeE
  change Hid _ at ek i1 jU f0
  have aki:Hid (∀B,V w B->∀(Bs:Option Addr) (Jj:Nat) (l:List Nat),cm B.heap.size B Bs 1 (l.map k6)->(∀x,x∈l->x<18446744073709551616)->Calls Tryz.prog 34 #[.slice Bs l.length Jj,.slice mA ws.length wc] B fun e bs=>∃v,e = .returned v∧bs.ownsRow B.heap.size 4 1 v (iE l ws).length ((iE l ws).map gi)∧V B bs) :=
    fun B aV Bs Jj l ak J=>avd B Bs Jj l ak J mA wc ws ((Hw.to aV).mono aV.size) hg mM
  change Hid _ at Hv
  clear Hw hg mM
  generalize ws.length=wl at *
  go_enter Tryz.func14,Tryz.ntmps14
  go_wp2_with fail
  go_loopw [5,6] (fun all aq B=>∃(k:Nat) (rows:List g3),k<=ls.length∧aq = .int .i64 k∧Hid (B.ownsRow w.heap.size 82 1 all k (rows.map g3.v))∧Hid (rows.map g3.l=(ls.take k).map (fun l=>iE l ws))∧Hid (∀r,r∈rows->iJ B r.v r.l∧sx all r.v)∧Hid (V w B)) (fun _ aq _=>ls.length - (intOf aq).toNat)
  case atStart=>exact⟨0,[],cE _,rfl,k8 _ _ _ _,rfl,fun r ak=>by simp at ak,ax _ _⟩
  case round =>
    obtain⟨k,rows,X,rfl,a6,yk,mU,au⟩:=hrel
    by_cases aB:k<ls.length
    · obtain⟨l,ao⟩:=bS aB
      obtain⟨EF,agz,EH,bQ,NZ,F0,apt,RA⟩:=Hv k l ao
      have c0:wr.cell? ⟨EF,agz+k,none⟩=some EH:=(au.cell (p:=⟨EF,agz+k,none⟩) NZ).trans F0
      obtain⟨Bs,Jj,KQ,aet⟩:=apt
      have aes:=(aet.to au).mono au.size
      subst KQ
      subst bQ
      have abo:=K (aki wr au Bs Jj l aes RA)
      have fa:(k:Int)<(ls.length:Int):=by omega
      have bM:=bF ((k:Int)+1)
      have bW:Hid ((ls.take (k+1)).map (fun l=>iE l ws)=rows.map g3.l++[iE l ws]):=by
        show _=_
        rw[gM _ k l ao,g1,yk.out];rfl
      clear ao F0 aet aes RA yk
      generalize iE l ws=k4 at *
      generalize l.length=ll at *
      go_wp2_with (first
        | (go_at_call 34
           refine abo.mono ?_
           rintro e w2 ⟨iW,rfl,B9,bH⟩
           obtain⟨kH,me,N2,-⟩:=(iJ.of B9).row
           subst N2
           have tc:Hid (w2.ownsRow w.heap.size 82 1 u5 k (rows.map g3.v)):=mx a6 bH
           have Hh:Hid (∀r,r∈rows->iJ w2 r.v r.l∧sx u5 r.v):=fun r ak=>⟨(mU r ak).1.to bH,(mU r ak).2⟩
           have Md:Hid (sx u5 (.slice kH k4.length me)):=UK a6 B9 (aL _)
           have L8:Hid (iJ w2 (.slice kH k4.length me) k4):=iJ.of B9
           have ym:Hid (V w w2):=au.trans (bH.mono au.size)
           have gY:=ym.size
           have cn:k+1<=maxLen:=by simp only[maxLen];omega
           have cq:(k+1)*24<=140737488355328:=by omega
           have cJ:w.heap.size<=(w2.alloc (.cells #[.slice kH k4.length me] 82)).heap.size:=by simp;omega
           clear B9 bH a6 mU c0 abo
           have tok:True:=trivial)
        | (have _t:=tok;at_builtin;(refine wpList_append_lies _ rfl (.tmp 13) (.tmp 20) 47 rfl w.heap.size 82 eE _ 1 24 Tryz.underlying47 ek i1 jU f0 rfl (by decide) u5 k _ rfl (tc.alloc _) ⟨w2.heap.size,0,none⟩ 1 1 [.slice kH k4.length me] rfl rfl (i5 (h8 _ _)) (by simp[Value.oneCell']) (by decide) cn cq cJ _ rfl ?_;intro g cap al bc br kX cj;clear tok)))
      have oq:Hid (∀v l,iJ w2 v l->sx u5 v->iJ al v l∧sx (.slice (some ⟨g,0,none⟩) (k+1) cap) v):=fun v l L ah=>by
        have hS:iJ (w2.alloc (.cells #[.slice kH k4.length me] 82)) v l:=L.to ((ax _ _).alloc (aL _) _)
        exact⟨hS.kept br ah,ah.new hS kX (aL _)⟩
      have i8:Hid (al.ownsRow w.heap.size 82 1 (.slice (some ⟨g,0,none⟩) (k+1) cap) (k+1) ((rows++[(g3.mk (.slice kH k4.length me) k4)]).map g3.v)):=by
        show World.ownsRow _ _ _ _ _ _ _
        rw[g1]
        exact bc
      have cV:Hid (V w al):=us ym tc br
      have Hg:Hid (∀r,r∈rows++[(g3.mk (.slice kH k4.length me) k4)]->iJ al r.v r.l∧sx (.slice (some ⟨g,0,none⟩) (k+1) cap) r.v):=by
        intro r ak
        rcases o7.1 ak with ak | ak
        · exact oq _ _ (Hh r ak).1 (Hh r ak).2
        · rw[List.mem_singleton.1 ak]
          exact oq _ _ L8 Md
      have Tp:Hid ((rows++[(g3.mk (.slice kH k4.length me) k4)]).map g3.l=(ls.take (k+1)).map (fun l=>iE l ws)):=by
        show _=_
        rw[g1,bW.out];rfl
      clear bc br kX cj cn cq cJ tc ym oq bW L8 Md Hh au
      go_wp2
      go_roundw
      case measure=>simp[intOf];omega
      exact⟨k+1,_,by omega,by simp,i8.out,Tp.out,Hg.out,cV⟩
    · have cQ:¬((k:Int)<(ls.length:Int)):=by omega
      have hM:Hid (wr.ownsRow w.heap.size 82 1 u5 ls.length (rows.map g3.v)):=by
        have:=a6.out
        rwa [show k=ls.length by omega] at this
      have oP:Hid (rows.map g3.l=ls.map (fun l=>iE l ws)):=by
        have:=yk.out
        rwa [fQ (by omega)] at this
      clear a6 yk
      go_wp2
      go_ret
      exact⟨_,rfl,rows,hM.out,oP.out,fun r ak=>(mU r ak).1,au⟩
section
variable {G:eq} {ni n:Nat} (h:lc G ni n)
theorem aco (h:lc G ni n):jC G=1+G.ins.toNat+G.lats.length:=by
 have F:=h.first;have O:=h.ins;omega
theorem acn (h:lc G ni n):1+G.ins.toNat+G.lats.length+G.ands.length=n:=by
 have F:=h.all;have O:=aco h;omega
theorem acq (h:lc G ni n) (ag:n<=60000):G.small:=by
 have F:=h.first;have O:=h.all;have aW:=h.ins;have cw:=Qn h;exact⟨by omega,by omega,h.ll,h.lo,by omega⟩
theorem amx (h:lc G ni n):LQ G:=fun k d U=>by
 have F:=h.ands k d U;rw[aco h] at F;exact F
theorem amy (h:lc G ni n):PM G (1+G.ins.toNat+G.lats.length+G.ands.length):=fun k d U=>by
 have F:=h.lats d (bn U);rw[acn h];exact F
theorem amA (h:lc G ni n):PW G (1+G.ins.toNat+G.lats.length+G.ands.length):=fun k d U=>by
 have F:=h.outs d (bn U);rw[acn h];exact F
theorem amz (h:lc G ni n) (ag:n<=60000):Ju G=true:=by
 have e:=Qn h;have ami:G.first=((jC G:Nat):Int):=by
  have F:=h.first;have O:=h.ins;unfold eq.first;omega
 unfold Ju;rw[decide_eq_true (acq h ag),Bool.true_and,Bool.and_eq_true,Bool.and_eq_true];refine⟨⟨k9.2 fun i hi=>?_,k9.2 fun z ao=>?_⟩,k9.2 fun z ao=>?_⟩
 ·cases U:G.ands[i]? with
  | none=>unfold Dg;rw[U]
  | some d =>
   rw[abC U,ami];obtain⟨F,O⟩:=h.ands i d U;simp only[od,Bool.and_eq_true,decide_eq_true_eq];omega
 ·unfold Ck od;rw[e];exact decide_eq_true (h.lats z ao)
 ·unfold od;rw[e];exact decide_eq_true (h.outs z ao)
end
theorem XQ {w:World} {C n:Nat} {v:Value} {rows:List g3} (h:w.ownsRow C 82 1 v n (rows.map g3.v)) (D:∀r,r∈rows->iJ w r.v r.l):∃a c,v = .slice a n c∧z8 w a rows∧rows.length=n:=by
 have hl:rows.length=n:=by have:=h.1;simp at this;omega
 rcases h.2 with ⟨aI,F⟩ | ⟨g,cap,hV,L,F⟩
 ·refine⟨none,0,by rw[aI,F],fun i r ak=>?_,hl⟩
  have:=(cr.1 ak).1
  omega
 ·refine⟨some ⟨g,0,none⟩,cap,L,fun i r ak=>⟨g,0,rfl,(h.lt g (by rw[L];rfl)).2,?_,D r (bn ak)⟩,hl⟩
  have:=h.cells (g:=g) (by rw[L];rfl) i r.v (by rw[fT,ak];rfl)
  rw[HH] at this;simpa using this
theorem z8.to {w B:World} {a:Option Addr} {rows:List g3} (h:z8 w a rows) (D:V w B):z8 B a rows:=fun i r ak=>by
 obtain⟨b,o,ad,aB,ar,xw⟩:=h i r ak;exact⟨b,o,ad,bk aB D.size,(D.cell (p:=⟨b,o+i,none⟩) aB).trans ar,xw.to D⟩
def g3.tr (r:g3):mp:=match r.v with
 | .slice a _ c=>⟨a,c,r.l⟩
 | _=>⟨none,0,r.l⟩
theorem avj (rows:List g3):(rows.map g3.tr).map mp.l=rows.map g3.l:=by
 rw[List.map_map];refine o8 fun r _=>?_
 show(g3.tr r).l=r.l
 unfold g3.tr;split <;> rfl
theorem avh {w:World} {a:Option Addr} {rows:List g3} (h:z8 w a rows) (ag:rows.length<=5864062014805):abp w.heap.size w a (rows.map g3.tr):=by
 have one:∀r,iJ w r.v r.l->(g3.tr r).cells=[r.v]∧cm w.heap.size w (g3.tr r).a 1 ((g3.tr r).l.map Ac):=fun r ak=>by
  obtain⟨x,c,L,nR⟩:=ak.row;have e:g3.tr r=⟨x,c,r.l⟩:=by unfold g3.tr;rw[L]
  rw[e];exact⟨by unfold mp.cells;rw[L],nR⟩
 refine⟨fun cb=>?_,fun t eg=>?_,by simpa using ag⟩
 ·cases rows with
  | nil=>exact absurd rfl cb
  | cons mz oH =>
   obtain⟨b,o,ad,aB,-,-⟩:=h 0 mz rfl;refine⟨b,o,ad,aB,fun i cs hi j x J=>?_⟩;rw[fT,fT] at hi;cases ak:(mz::oH)[i]? with
   | none=>rw[ak] at hi;cases hi
   | some r =>
    rw[ak] at hi;obtain⟨bw,kG,f7,-,ar,xw⟩:=h i r ak;have yC:(g3.tr r).cells=cs:=by simpa using hi
    rw[(one r xw).1] at yC;subst yC;rw[ad] at f7;injection f7 with f7
    injection f7 with bp aS
    cases j with
    | succ j=>simp at J
    | zero =>
     have yv:r.v=x:=by simpa using J
     rw[<-yv,<-ar,bp,aS];simp
 ·obtain⟨r,ak,rfl⟩:=i6.1 eg;obtain⟨i,hi⟩:=List.mem_iff_getElem?.1 ak;obtain⟨-,-,-,-,-,xw⟩:=h i r hi;exact(one r xw).2
theorem aus {w:World} {C n:Nat} {v:Value} {rows:List nh} (h:w.ownsRow C 33 1 v n (rows.map nh.v)) (D:∀r,r∈rows->mI w r.v r.l) (J:∀r,r∈rows->∀x,x∈r.l->x<18446744073709551616):∃a c,v = .slice a n c∧Hy w a (rows.map nh.l)∧rows.length=n:=by
 have hl:rows.length=n:=by have:=h.1;simp at this;omega
 rcases h.2 with ⟨aI,F⟩ | ⟨g,cap,hV,L,F⟩
 ·refine⟨none,0,by rw[aI,F],fun i r ak=>?_,hl⟩
  have:=(cr.1 ak).1
  simp at this;omega
 ·refine⟨some ⟨g,0,none⟩,cap,L,fun i l ak=>?_,hl⟩;rw[fT] at ak;cases aJ:rows[i]? with
  | none=>rw[aJ] at ak;cases ak
  | some r =>
   rw[aJ] at ak;have e:r.l=l:=by simpa using ak
   subst e;refine⟨g,0,r.v,rfl,(h.lt g (by rw[L];rfl)).2,?_,(D r (bn aJ)).row,J r (bn aJ)⟩
   have:=h.cells (g:=g) (by rw[L];rfl) i r.v (by rw[fT,aJ];rfl)
   rw[HH] at this;simpa using this
theorem avg {Y:Nat} {w:World} {a:Option Addr} {dq:List g2} (h:z9 Y w a dq) (aM:Y<=w.heap.size):Hy w a (dq.map g2.l):=fun i l hl=>by
 rw[fT] at hl;cases aJ:dq[i]? with
 | none=>rw[aJ] at hl;cases hl
 | some t =>
  rw[aJ] at hl;have e:t.l=l:=by simpa using hl
  subst e;obtain⟨b,o,ad,aB,ar⟩:=h.row.el aJ;have aI:=ar 0 _ rfl;have eg:=h.each t (bn aJ);exact⟨b,o,_,ad,bk aB aM,by simpa using aI,⟨_,_,rfl,eg.1.mono aM⟩,eg.2.2⟩
theorem atz {Y:Nat} {w:World} {S:dp} {N:aR} (aO:eM Y w S N) (aG:er N=true) (j6:List (List Nat)) {s:oT} (h:xj N s):∀l,l∈tB N j6 s->∀x,x∈l->x<18446744073709551616:=by
 induction j6 generalizing s with
 | nil=>intro l hl;cases hl
 | cons r t aA =>
  intro l hl;rcases List.mem_cons.1 hl with rfl | hl
  ·intro x J;obtain⟨a,-,rfl⟩:=i6.1 J;have L:De N (nD N r s):=M0 aO aG r s.r s.m h _;unfold gR;cases aJ:(nD N r s)[a.toNat]? with
   | none=>simp
   | some y =>
    have aT:=(cr.1 aJ).1;rw[YA] at aT;obtain⟨d,U⟩:∃d,N.nodes[a.toNat]?=some d:=bS aT;have F:=L _ y d aJ U;have O:=Cp aG (bn U);have aW:2^d.width.toNat<=2^64:=q7 (by decide) (by omega);simp only[Option.getD_some];have axH:(2:Nat)^64=18446744073709551616:=by decide
    omega
  ·exact aA (Yd aO aG r h) l hl
theorem awm {N:aR} (aG:er N=true):∀x,x∈pD N N.outs->0<=x∧x<=64:=fun x J=>by
 obtain⟨a,-,rfl⟩:=i6.1 J;unfold f2;cases aJ:N.nodes[a.toNat]? with
 | none=>simp
 | some d =>
  have:=Cp aG (bn aJ)
  simp only[Option.map_some,Option.getD_some];omega
theorem asz (Y:Nat) (w I:World) (S:dp) (N:aR) (e8:Hid (∀j,I.cell? ⟨w.heap.size,j,none⟩=(#[.slice S.a0 N.ins.length S.c0,.slice S.a1 N.nodes.length S.c1,.slice S.a2 N.regs.length S.c2,.slice S.a3 N.mems.length S.c3,.slice S.a4 N.wrs.length S.c4,.slice S.a5 N.outs.length S.c5]:Array Value)[j]?)) (hU:Hid (eM Y I S N)) (a8:w.heap.size<I.heap.size) (gE:Y<=I.heap.size) (aU:N.ins.length<cd) (c0:Bool) (wc:World) (vj:Hid (V I wc)) (b9:Act->World->Prop) (eV:Exit->Act->World->Prop) {bX en e2 ea ec dL ep cz gy fS eF ex ey cM cA cB cC cD cS cT cH cW cX cY cN cI eo c7 dD dE dF dh dO dP dr dt di dj c8 c9 db dd de df dG dH du cZ c6 dw dx dQ dy dz dI dJ dK dk dl dm dn dR dS dT dU dV dW dX dY dZ d0 d3 d4 d5 d6 d7 d8 ei ed eR eS eT eU fy fA e3 fM fC fD e4 e5 e6 e7 fN fO fP fB fc fd fe ff fg fh fi fj fk eY eZ e0 fJ fK fL fl fm fo fp fq fs ft fu fv fw eH eI eJ eK eL gm f8 f9 ga gb gc gf gu gv hE hj hk hm hn ho hp hq hr ht hu hv hw hd iy iz ig pE pF pG pH pI pJ pK pL pM pN pO pP pQ pR pS pT pU pV pW pX pY pZ p0 p1 p2 p3 p4 p5 p6 p7 p8 p9 rV rW rX rY rZ r0 r1 r2 r3 r4 r5 r6 r7 r8 r9 sa sb sc sd se sf sg si sj sk sm sn so sp sq sr q4:Value}
  (dM:Hid (∀(s:Value) (B:World) {Ji yU Sz SA SB SC SD SE LB LC LD LF Jg Jh LG LH wx wy wz:Value},(∃c:Bool,s = .bool c∧Hid (c=(c0&&N.ins.all cL))∧Hid (V I B))->b9 ⟨#[bX,.pointer (some ⟨w.heap.size,0,none⟩),en,s,Ji,yU,ea,ec,dL,ep,cz,gy,fS,eF,ex,ey,Sz,SA,SB,SC,SD,SE,LB,LC,LD,LF,Jg,Jh,LG,LH,wx,wy,wz,dF,dh,dO,dP,dr,dt,di,dj,c8,c9,db,dd,de,df,dG,dH,du,cZ,c6,dw,dx,dQ,dy,dz,dI,dJ,dK,dk,dl,dm,dn,dR,dS,dT,dU,dV,dW,dX,dY,dZ,d0,d3,d4,d5,d6,d7,d8,ei,ed,eR,eS,eT,eU,fy,fA,e3,fM,fC,fD,e4,e5,e6,e7,fN,fO,fP,fB,fc,fd,fe,ff,fg,fh,fi,fj,fk,eY,eZ,e0,fJ,fK,fL,fl,fm,fo,fp,fq,fs,ft,fu,fv,fw,eH,eI,eJ,eK,eL,gm,f8,f9,ga,gb,gc,gf,gu,gv,hE,hj,hk,hm,hn,ho,hp,hq,hr,ht,hu,hv,hw,hd,iy,iz,ig,pE,pF,pG,pH,pI,pJ,pK,pL,pM,pN,pO,pP,pQ,pR,pS,pT,pU,pV,pW,pX,pY,pZ,p0,p1,p2,p3,p4,p5,p6,p7,p8,p9,rV,rW,rX,rY,rZ,r0,r1,r2,r3,r4,r5,r6,r7,r8,r9,sa,sb,sc,sd,se,sf,sg,si,sj,sk,sm,sn,so,sp,sq,sr,q4],[]⟩ B)) :
  Code.wp Tryz.prog ((Tryz.f6.body.bind (jh 0)).getD .skip) (Exit.then b9 eV) ⟨#[bX,.pointer (some ⟨w.heap.size,0,none⟩),en,.bool c0,.int .i64 0,e2,ea,ec,dL,ep,cz,gy,fS,eF,ex,ey,cM,cA,cB,cC,cD,cS,cT,cH,cW,cX,cY,cN,cI,eo,c7,dD,dE,dF,dh,dO,dP,dr,dt,di,dj,c8,c9,db,dd,de,df,dG,dH,du,cZ,c6,dw,dx,dQ,dy,dz,dI,dJ,dK,dk,dl,dm,dn,dR,dS,dT,dU,dV,dW,dX,dY,dZ,d0,d3,d4,d5,d6,d7,d8,ei,ed,eR,eS,eT,eU,fy,fA,e3,fM,fC,fD,e4,e5,e6,e7,fN,fO,fP,fB,fc,fd,fe,ff,fg,fh,fi,fj,fk,eY,eZ,e0,fJ,fK,fL,fl,fm,fo,fp,fq,fs,ft,fu,fv,fw,eH,eI,eJ,eK,eL,gm,f8,f9,ga,gb,gc,gf,gu,gv,hE,hj,hk,hm,hn,ho,hp,hq,hr,ht,hu,hv,hw,hd,iy,iz,ig,pE,pF,pG,pH,pI,pJ,pK,pL,pM,pN,pO,pP,pQ,pR,pS,pT,pU,pV,pW,pX,pY,pZ,p0,p1,p2,p3,p4,p5,p6,p7,p8,p9,rV,rW,rX,rY,rZ,r0,r1,r2,r3,r4,r5,r6,r7,r8,r9,sa,sb,sc,sd,se,sf,sg,si,sj,sk,sm,sn,so,sp,sq,sr,q4],[]⟩ wc:=by
 simp only[cd] at aU
 conv=>arg 2;whnf
 go_wp2_with fail
 go_loopw [3,4] (fun s aq B=>∃(k:Nat) (c:Bool),k<=N.ins.length∧aq = .int .i64 k∧s = .bool c∧Hid (c=(c0&&(N.ins.take k).all cL))∧Hid (V I B)) (fun _ aq _=>N.ins.length - (intOf aq).toNat)
 case atStart=>exact⟨0,c0,cE _,rfl,rfl,by show _=_;simp,vj⟩
 case round =>
  obtain⟨k,c,X,rfl,rfl,gC,au⟩:=hrel;have gq:wr.cell? ⟨w.heap.size,0,none⟩=some (.slice S.a0 N.ins.length S.c0):=(au.cell (p:=⟨w.heap.size,0,none⟩) a8).trans (e8 0);by_cases aB:k<N.ins.length
  ·obtain⟨eE,Cj,bQ,ek,nO⟩:=hU.i.int aB;have fY:wr.cell? ⟨eE,Cj+k,none⟩=some (.int .i64 (bi N.ins k)):=(au.cell (p:=⟨eE,Cj+k,none⟩) (bk ek gE)).trans (nO k aB);have iC:=K (vr aB);rw[bQ] at gq;generalize bi N.ins k=x at fY iC;have fa:(k:Int)<(N.ins.length:Int):=by omega
   have aS:=bF ((k:Int)+1);have bP:Hid ((c&&cL x)=(c0&&(N.ins.take (k+1)).all cL)):=by show _=_;rw[Fg _ _ k x iC,<-Bool.and_assoc,<-gC.out]
   have j1:Hid (∀w,Calls Tryz.prog 18 #[.int .i64 x] w fun e B=>e = .returned (.bool (cL x))∧B=w):=fun w=>LK x w
   generalize cL x=aQ at j1 bP;clear gC iC nO bQ;cases c
   all_goals
    go_wp2_with (go_at_call 18;refine(j1 _).mono ?_;rintro e B ⟨rfl,rfl⟩)
    go_roundw
    case measure=>simp[intOf];omega
    exact⟨k+1,_,by omega,by simp,rfl,bP.out,au⟩
  ·have cQ:¬((k:Int)<(N.ins.length:Int)):=by omega
   have ez:Hid (c=(c0&&N.ins.all cL)):=by show _=_;rw[gC.out,fQ (by omega)]
   clear gC;go_wp2;exact dM _ _ ⟨c,rfl,ez.out,au⟩
end Go.Proofs.YtcbcenfjigcfkaaGreatDoor
