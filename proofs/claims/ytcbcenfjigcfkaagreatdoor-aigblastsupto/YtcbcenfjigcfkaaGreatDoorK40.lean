import Derived.Test.YtcbcenfjigcfkaaGreatDoorK39
set_option maxRecDepth 100000
set_option maxHeartbeats 40000000
namespace Go.Proofs.YtcbcenfjigcfkaaGreatDoor
open Go.RowKit
variable {C n ni v:Nat} {T:Nat->Prop} {a:Option Addr} {bX c6 c7 c8 c9 cA cB cC cD cH cI cM cN cS cT cW cX cY cZ cz d0 d3 d4 d5 d6 d7 d8 dC dD dE dF dG dH dI dJ dK dL dO dP dQ dR dS dT dU dV dW dX dY dZ db dd de df dh di dj dk dl dm dn dr dt du dw dx dy dz e1 eF ea ec ed ei en eo ep ex ey fS fx gy:Value} {w:World}
def yo (C:Nat) (T:jm):Prop:=(∀b o,T.a1=some ⟨b,o,none⟩->C<=b)∧(∀b o,T.a2=some ⟨b,o,none⟩->C<=b)∧(∀b o,T.a3=some ⟨b,o,none⟩->C<=b)
theorem XC {e gx m c:Nat} {xs:List Value} (h:w.ownsRow C e gx (.slice a m c) n xs) {nF:Nat} (mY:nF<=C):∀b o,a=some ⟨b,o,none⟩->nF<=b:=by
 intro b o e
 have:=(h.lt b (by rw[e];rfl)).1
 omega
theorem cm.set {B:World} {gx rs:Nat} {kS:List (List Value)} (h:cm w.heap.size w a gx kS) (ag:∀b o,a=some ⟨b,o,none⟩->C<=b) (ak:rs<C) (af:w.grownBy B (some rs)):cm B.heap.size B a gx kS:=fun ay=>by
 obtain⟨b,o,ad,aB,ar⟩:=h ay;have D:=ag b o ad;exact⟨b,o,ad,bk aB af.size,fun i cs F j x O=>(af.cell_far ⟨b,o+i*gx+j,none⟩ aB (by simp;omega)).trans (ar i cs F j x O)⟩
theorem iB.set {B:World} {T:jm} {G:eq} {rs:Nat} (h:iB w.heap.size w T G) (ag:yo C T) (ak:rs<C) (af:w.grownBy B (some rs)):iB B.heap.size B T G :=
 ⟨h.l.set ag.1 ak af,h.a.set ag.2.1 ak af,h.o.set ag.2.2 ak af,h.ll,h.la,h.lo⟩
theorem awY {α β:Type} (l:List α) (m:List β):l.zip (m.take l.length)=l.zip m:=by
 induction l generalizing m with
 | nil=>simp
 | cons a l aA =>
  cases m with
  | nil=>simp
  | cons b m=>simp[aA]
theorem aeP (bm:Nat->Nat) (ba:List Bool) (l:List eA):i2 bm ba l l.length=i2 bm (ba.take l.length) l l.length:=by
 unfold i2;rw[awY]
theorem aeS (C Y:Nat) (w:World) (bl E g n ni:Nat) (S:jm) (G:eq) (hF:lc G ni n) (nd:List Bool) (wt:List Nat) (jv:Value) (h:jP C w bl E g n (nd,wt) jv) (gW:o9 w E S G) (aO:iB Y w S G) (aM:Y<=w.heap.size) :
  Calls Tryz.prog 57 #[.pointer (some ⟨bl,0,none⟩)] w fun e B=>(∃T,e = .returned (.agg (T.cells (kg nd G)))∧iB B.heap.size B T (kg nd G)∧yo w.heap.size T)∧V w B:=by
 have SX:Hid (∀B,V w B->Calls Tryz.prog 58 #[.pointer (some ⟨E,0,none⟩)] B fun e bs=>e = .returned (.int .i64 (jC G:Nat))∧∃k,bs=B.drewN k):=fun B aV=>by
  have:=UO B E S G (gW.to gW.lt aV) (by rw[hF.ins];omega) (by have:=hF.first;have:=hF.le;have:=hF.all;rw[hF.ins];omega) aO.ll
  rw[show G.first=((jC G:Nat):Int) by unfold eq.first;rw[hF.ins];have:=hF.first;omega] at this;exact this
 have pt:nd.length=n:=h.len;have ef:=hF.first;have iL:=hF.all;have qT:=hF.le;have KB:=hF.ll;have h0:=hF.lo;obtain⟨first,qr⟩:=cf (jC G);have CU:=K qr;rw[<-qr] at ef iL SX;obtain⟨bx,Rk⟩:=cf (nd.drop first);obtain⟨aqP,Q9⟩:=cf (nd.drop (1+ni));obtain⟨jl,Ra⟩:=cf (aqP.take G.lats.length);have adP:bx.length=G.ands.length:=by rw[Rk,q5];omega
 have adw:jl.length=G.lats.length:=by rw[Ra,Q9,jx,q5];omega
 obtain⟨bm,Iq⟩:=cf (g6 nd);have Ar:1+ni+G.lats.length<=first:=by omega
 have adg:first<=1+ni+G.lats.length:=by omega
 have vn:Hid (∀(k:Nat) (b:Bool),nd[k]?=some b->bm (k+1)=bm k+(if b then 1 else 0)):=fun k b D=>by rw[Iq];exact Se D
 have vk:=K hF.ins;have nZ:=K hF;have hO:=K h;have mE:=K gW;have gg:=K aO;have jU:=h.lt;have lh:=gW.lt;have af:=(h.nd.lt g rfl).2;have TQ:Hid (∀v,bm v<=100000000):=fun v=>by have:=atU nd v;rw[Iq];omega
 have Tr:Hid (∀(i:Nat) (b:Bool),nd[i]?=some b->w.cell? ⟨g,i,none⟩=some (.bool b)):=by
  intro i b hi
  have:=(cr.1 hi).1
  rw[h.nd.cellAt i (by omega)]
  show(nd.map gi)[i]?=_
  rw[fT,hi];rfl
 obtain⟨eE,ek,i1,Wz,f0⟩:=sW;have c1:=h.c1
 change Hid _ at pt Iq Rk Ra Q9 ek i1 Wz f0
 clear h hF qr gW aO ef;have ke:eE.bytes*n<=281474976710656:=by rw[f0.out];omega
 have jc:n<=maxLen:=by simp only[maxLen];omega
 have B8:∀(fn:Fn) (first cap:Array Value) (w:World),(Instr.makeFunc fn first cap).run Tryz.prog w = .ok (.func fn first cap) w:=fun _ _ _ _=>rfl
 go_enter Tryz.func57,Tryz.ntmps57
 go_upto_region 1 with fail
 generalize oX:World.alloc w _=az;obtain⟨rs,k0⟩:=cf (w.heap.size);have ir:Hid (V w az):=by rw[<-oX];exact(ax _ _).alloc (aL _) _
 have td:Hid (az.heap.size=w.heap.size+1):=by show _=_;rw[<-oX];simp
 have xc:Hid (∀j,az.cell? ⟨rs,j,none⟩=(#[.int .i64 0,.slice none 0 0,.slice none 0 0,.slice none 0 0]:Array Value)[j]?):=by
  rw[<-oX,k0];intro j;exact ja rfl
 have xd:Hid (∀j,az.frozen? ⟨rs,j,none⟩=false):=by
  rw[<-oX,k0];intro j;exact World.frozen?_alloc_at _ _ _ _ rfl
 rw[<-k0];have qw:w.heap.size<=rs:=by omega
 have aec:rs<=w.heap.size:=by omega
 have yp:=(ir.cell (p:=⟨bl,1,none⟩) jU).trans c1;clear oX k0 c1;have tok:True:=trivial;go_upto_region 2 with (have _t:=tok;at_make;(refine wpList_make_full _ rfl (.tmp 19) (.tmp 19) 22 rfl az.heap.size 3 eE _ 1 Tryz.underlying22 ek i1 Wz .i64 .i64 (n:Int) (n:Int) n rfl rfl rfl rfl ke jc (aL _) ?_;intro w1 gX ij;have ud:=K gX;have gr:=K ij;clear tok gX ij))
 obtain⟨hc,WA⟩:=cf (az.heap.size);have Tq:Hid (w1.ownsRow hc 3 1 (.slice (some ⟨hc,0,none⟩) n n) n ((List.replicate n 0).map xH)):=by
  have:=ud.out
  rw[aqU,<-WA] at this;exact this
 rw[<-WA];generalize uw:World.alloc w1 _=w2;obtain⟨ab,V8⟩:=cf (w1.heap.size);have cg:Hid (V w1 w2):=by rw[<-uw];exact(ax _ _).alloc (aL _) _
 have L3:Hid (V az w2):=(tw gr).trans (cg.mono gr.size);have t9:Hid (V w w2):=ir.trans (L3.mono ir.size);have nt:w2.heap.size=w1.heap.size+1:=by rw[<-uw];simp
 have apo:=(Tq.lt hc rfl).2;have fH:w2.cell? ⟨ab,0,none⟩=some (.slice (some ⟨hc,0,none⟩) n n):=by rw[<-uw,V8];exact ja rfl
 rw[<-V8];have Io:rs<hc:=by have:=td.out;omega
 have azI:hc<ab:=by omega
 have j3:ab<w2.heap.size:=by omega
 have BA:Hid (w2.ownsRow hc 3 1 (.slice (some ⟨hc,0,none⟩) n n) n ((List.replicate n 0).map xH)):=mx Tq cg;have aaq:Hid (∀j,w2.cell? ⟨rs,j,none⟩=(#[.int .i64 0,.slice none 0 0,.slice none 0 0,.slice none 0 0]:Array Value)[j]?):=fun j=>(L3.cell (p:=⟨rs,j,none⟩) (by show rs<_;omega)).trans (xc j)
 have aav:Hid (∀j,w2.frozen? ⟨rs,j,none⟩=false):=fun j=>(L3.frozen (p:=⟨rs,j,none⟩) (by show rs<_;omega)).trans (xd j)
 have alh:=(L3.cell (p:=⟨bl,1,none⟩) (by show bl<_;omega)).trans yp;clear uw V8 WA ud gr Tq cg L3 xc xd yp nt apo ir ek i1 Wz f0 ke jc td
 go_upto_block 0 with fail
 refine aqn w2 bm nd hc n g ab hc fH j3 (by omega) (by have:=t9.size;omega) (by omega) qT pt vn (show ∀(i:Nat) (b:Bool),_ from fun i b hi=>(t9.cell (p:=⟨g,i,none⟩) af).trans (Tr i b hi)) (show 0=bm 0 by rw[Iq.out];rfl) TQ BA _ _ (K ?_);intro w3 Ji yU GA Jg Jh LG LH wx wy wz uT uU uW tG tH tI hcut;obtain⟨PG,EU⟩:=hcut
 replace PG:=K PG
 replace EU:=K EU
 have em:=EU.size;have go:Hid (V w w3):=t9.trans (jB EU t9.size (fun k X=>by have:=Option.some.inj X;omega));have CD:w3.cell? ⟨bl,0,none⟩=some (.pointer (some ⟨E,0,none⟩)):=(go.cell (p:=⟨bl,0,none⟩) jU).trans hO.c0;have EE:w3.cell? ⟨E,0,none⟩=some (.int .i64 (ni:Int)):=(go.cell (p:=⟨E,0,none⟩) lh).trans (by rw[<-vk.out];exact mE.c0);have Gj:=(EU.cell_far ⟨ab,0,none⟩ j3 (by simp;omega)).trans fH;have E1:Hid (∀j,w3.cell? ⟨rs,j,none⟩=(#[.int .i64 0,.slice none 0 0,.slice none 0 0,.slice none 0 0]:Array Value)[j]?):=fun j=>(EU.cell_far ⟨rs,j,none⟩ (by show rs<_;omega) (by simp;omega)).trans (aaq j)
 have E4:Hid (∀j,w3.frozen? ⟨rs,j,none⟩=false):=fun j=>(EU.frozen_far ⟨rs,j,none⟩ (by show rs<_;omega) (by simp;omega)).trans (aav j)
 have aaM:Hid (∀v,v<n->w3.cell? ⟨hc,v,none⟩=some (.int .i64 (bm v:Nat))):=by
  intro v L;rw[PG.cellAt v (by omega),fT,fT,List.getElem?_range L];rfl
 change Hid _ at Gj
 clear BA aaq aav EU t9 PG fH alh;go_upto_region 12 with fail
 generalize hy:World.alloc w3 _=aC;obtain⟨D,Nv⟩:=cf (w3.heap.size);have Mx:Hid (∀j,aC.cell? ⟨D,j,none⟩=(#[.int .i64 (ni:Int),.slice none 0 0,.slice none 0 0,.slice none 0 0]:Array Value)[j]?):=by
  rw[<-hy,Nv];intro j;exact ja rfl
 have aaO:Hid (∀j,aC.frozen? ⟨D,j,none⟩=false):=by
  rw[<-hy,Nv];intro j;exact World.frozen?_alloc_at _ _ _ _ rfl
 have Hk:Hid (V w3 aC):=by rw[<-hy];exact(ax _ _).alloc (aL _) _
 have uD:D<aC.heap.size:=by rw[<-hy,Nv];simp
 have b8:w3.heap.size<=D:=by omega
 rw[<-Nv];have ayx:D<=w3.heap.size:=by omega
 clear hy Nv CD EE;have fE:Hid (V w aC):=go.trans (Hk.mono go.size);have apf:=Hk.size;have azF:=fE.size;have aar:Hid (∀j,aC.cell? ⟨rs,j,none⟩=(#[.int .i64 0,.slice none 0 0,.slice none 0 0,.slice none 0 0]:Array Value)[j]?):=fun j=>(Hk.cell (p:=⟨rs,j,none⟩) (by show rs<_;omega)).trans (E1 j)
 have aaw:Hid (∀j,aC.frozen? ⟨rs,j,none⟩=false):=fun j=>(Hk.frozen (p:=⟨rs,j,none⟩) (by show rs<_;omega)).trans (E4 j)
 have JY:Hid (∀v,v<n->aC.cell? ⟨hc,v,none⟩=some (.int .i64 (bm v:Nat))∧bm v<=100000000):=fun v L=>⟨(Hk.cell (p:=⟨hc,v,none⟩) (by show hc<_;omega)).trans (aaM v L),TQ v⟩
 have PX:Hid (aC.cell? ⟨ab,0,none⟩=some (.slice (some ⟨hc,0,none⟩) n n)):=(Hk.cell (p:=⟨ab,0,none⟩) (by show ab<_;omega)).trans Gj.out;have Pb:Hid (iB Y aC S G):=gg.to (fE.mono aM);have pe:Hid (∀j,aC.cell? ⟨bl,j,none⟩=w.cell? ⟨bl,j,none⟩):=fun j=>fE.cell (p:=⟨bl,j,none⟩) jU
 have qJ:Hid (∀j,aC.cell? ⟨E,j,none⟩=w.cell? ⟨E,j,none⟩):=fun j=>fE.cell (p:=⟨E,j,none⟩) lh
 have BB:Hid (∀(i:Nat) (b:Bool),nd[i]?=some b->aC.cell? ⟨g,i,none⟩=some (.bool b)):=fun i b hi=>(fE.cell (p:=⟨g,i,none⟩) af).trans (Tr i b hi)
 have CD:aC.cell? ⟨bl,0,none⟩=some (.pointer (some ⟨E,0,none⟩)):=(pe 0).trans hO.c0;have EE:aC.cell? ⟨E,1,none⟩=some (.slice S.a1 G.lats.length S.c1):=(qJ 1).trans mE.c1;clear go E1 E4 aaM Gj Hk
 go_upto_block 2 with fail
 refine aqm aC G jl adw bm Y n ni bl E g ab D hc n S.a1 S.c1 ((pe 0).trans hO.c0) ((pe 1).trans hO.c1) ((qJ 0).trans (by rw[<-vk.out];exact mE.c0)) (by omega) (by omega) (by omega) (by omega) (by omega) (by omega) (by omega) (show ∀(i:Nat) (b:Bool),_ from fun i b hi=>BB _ _ (by rw[Ra.out,List.getElem?_take,Q9.out,vh] at hi;split at hi;exact hi;cases hi)) PX (by omega) (by omega) Pb.l (by omega) (by omega) nZ.lats qT (by omega) uD (by omega) (by omega) JY (by simpa using Mx 1) aaO _ _ (K ?_);intro al OV LA uZ va vb tJ tK tL tM tN tO tP tQ tR tS tT tU tV tW tX tY tZ t0 t1 t2 t3 t4 wL wM wN wO wP wQ wR x1 x2 hcut;obtain⟨⟨u1,iv,adT⟩,aZ,CR,rf⟩:=hcut;have lA:=K adT
 replace aZ:=K aZ
 replace rf:=K rf
 replace CR:=K CR
 have zm:=aZ.size
 change Hid _ at iv
 clear adT CD EE;have CD:al.cell? ⟨bl,0,none⟩=some (.pointer (some ⟨E,0,none⟩)):=(aZ.cell_far ⟨bl,0,none⟩ (by show bl<_;omega) (by simp;omega)).trans ((pe 0).trans hO.c0);have EE:al.cell? ⟨E,2,none⟩=some (.slice S.a2 G.ands.length S.c2):=(aZ.cell_far ⟨E,2,none⟩ (by show E<_;omega) (by simp;omega)).trans ((qJ 2).trans mE.c2);have Zm:Hid (V w al):=fE.trans (jB aZ fE.size (fun k X=>by have:=Option.some.inj X;omega))
 go_upto_block 4 with fail
 refine aql al G first bx bm Y n bl E g ab D hc n S.a2 S.c2 CD ((aZ.cell_far ⟨bl,1,none⟩ (by show bl<_;omega) (by simp;omega)).trans ((pe 1).trans hO.c1)) (by omega) (by omega) (by omega) (by omega) iL adP (show ∀(i:Nat) (b:Bool),_ from fun i b hi=>(aZ.cell_far ⟨g,first+i,none⟩ (by show g<_;omega) (by simp;omega)).trans (BB _ _ (by rw[Rk.out,vh] at hi;exact hi))) (show ∀B,al.grownBy B (some D)->_ from fun B FJ=>SX B (Zm.trans (jB FJ Zm.size (fun k X=>by have:=Option.some.inj X;omega)))) ((aZ.cell_far ⟨ab,0,none⟩ (by show ab<_;omega) (by simp;omega)).trans PX.out) (by omega) (by omega) (Pb.to (jB aZ (C:=Y) (by omega) (fun k X=>by have:=Option.some.inj X;omega))).a (by omega) (by omega) (by rw[CU.out];exact nZ.ands) qT (by omega) (by omega) (by omega) (show ∀v,v<n->_ from fun v L=>⟨(aZ.cell_far ⟨hc,v,none⟩ (by show hc<_;omega) (by simp;omega)).trans (JY v L).1,(JY v L).2⟩) ((CR 2 (by decide)).trans (by simpa using Mx 2)) rf _ _ (K ?_);intro aH OT Ss wS wT v4 v5 v6 v7 v8 v9 wa wb we xQ xR xS xT xU wf wg wh wj wk wm wo wp wq wu wv Su Sv Sw Sx Sy Yl hcut;obtain⟨⟨u2,rJ,B9⟩,h5,CS,nH⟩:=hcut;have qi:=K B9
 replace h5:=K h5
 replace nH:=K nH
 replace CS:=K CS
 have FZ:=h5.size;have G1:Hid (aC.grownBy aH (some D)):=js aZ h5
 change Hid _ at rJ
 clear B9 CD EE;have CD:aH.cell? ⟨bl,0,none⟩=some (.pointer (some ⟨E,0,none⟩)):=(G1.cell_far ⟨bl,0,none⟩ (by show bl<_;omega) (by simp;omega)).trans ((pe 0).trans hO.c0);have EE:aH.cell? ⟨E,3,none⟩=some (.slice S.a3 G.outs.length S.c3):=(G1.cell_far ⟨E,3,none⟩ (by show E<_;omega) (by simp;omega)).trans ((qJ 3).trans mE.c3)
 go_upto_block 6 with fail
 refine aqo aH G bm Y n ab D hc n S.a3 S.c3 ((G1.cell_far ⟨ab,0,none⟩ (by show ab<_;omega) (by simp;omega)).trans PX.out) (by omega) (by omega) (Pb.to (jB G1 (C:=Y) (by omega) (fun k X=>by have:=Option.some.inj X;omega))).o (by omega) (by omega) nZ.outs qT (by omega) (by omega) (by omega) (by omega) (show ∀v,v<n->_ from fun v L=>⟨(G1.cell_far ⟨hc,v,none⟩ (by show hc<_;omega) (by simp;omega)).trans (JY v L).1,(JY v L).2⟩) ((CS 3 (by decide)).trans ((CR 3 (by decide)).trans (by simpa using Mx 3))) nH _ _ (K ?_);intro g0 uS Ym Yn Yo Yp Yq Yr Ys Yt Yu Yv Yw Yx Yy hcut;obtain⟨⟨u3,aeo,Ca⟩,yg,Bx,Zs⟩:=hcut
 replace yg:=K yg
 replace Bx:=K Bx
 replace Zs:=K Zs
 have Pn:Hid (aC.grownBy g0 (some D)):=js G1 yg;have NX:=yg.size;have Ty:Hid (g0.ownsRow aC.heap.size 81 2 u1 (i2 bm jl G.lats (G.lats.length)).length ((i2 bm jl G.lats (G.lats.length)).flatMap eA.cells)):=(lA.kept h5 (IP lA (by omega))).kept yg (IP lA (by omega));have Tz:Hid (g0.ownsRow al.heap.size 79 2 u2 (jd bm bx G.ands (G.ands.length)).length ((jd bm bx G.ands (G.ands.length)).flatMap Z.cells)):=qi.kept yg (IP qi (by omega));have tc:=K Ca;have b0:g0.cell? ⟨D,0,none⟩=some (.int .i64 (ni:Int)):=(Bx 0 (by decide)).trans ((CS 0 (by decide)).trans ((CR 0 (by decide)).trans (by simpa using Mx 0)));have b1:g0.cell? ⟨D,1,none⟩=some u1:=(Bx 1 (by decide)).trans ((CS 1 (by decide)).trans iv.out);have b2:g0.cell? ⟨D,2,none⟩=some u2:=(Bx 2 (by decide)).trans rJ.out;have b3:g0.cell? ⟨D,3,none⟩=some u3:=aeo;have Mt:Hid (∀j,g0.cell? ⟨rs,j,none⟩=(#[.int .i64 0,.slice none 0 0,.slice none 0 0,.slice none 0 0]:Array Value)[j]?):=fun j=>(Pn.cell_far ⟨rs,j,none⟩ (by show rs<_;omega) (by simp;omega)).trans (aar j)
 have Mb:Hid (∀j,g0.frozen? ⟨rs,j,none⟩=false):=fun j=>(Pn.frozen_far ⟨rs,j,none⟩ (by show rs<_;omega) (by simp;omega)).trans (aaw j)
 have mz:=Mt 0;have io:=Mt 1;have jM:=Mt 2;have lZ:=Mt 3;have pl:=Mb 0;have sM:=Mb 1;have oU:=Mb 2;have yw:=Mb 3;simp at mz io jM lZ;have w4:Hid (V w g0):=fE.trans (jB Pn fE.size (fun k X=>by have:=Option.some.inj X;omega));clear aeo Ca Pn G1 Bx CS CR lA qi iv rJ Mx aar aaw yg h5 aZ nH rf JY Pb aaO TQ fE CD EE BB Tr pe qJ PX hO mE gg SX;obtain⟨a1,c1,DQ⟩:=Gh Ty;obtain⟨a2,c2,sT⟩:=Gh Tz;obtain⟨a3,c3,apG⟩:=Gh tc;subst DQ sT apG;go_wp2;have md:rs<aC.heap.size:=by omega
 obtain⟨oK,iA,jW,l0⟩:=Sk mz io jM lZ (Value.int IntKind.i64 (ni:Int)) (Value.slice a1 (i2 bm jl G.lats G.lats.length).length c1) (Value.slice a2 (jd bm bx G.ands G.ands.length).length c2) (Value.slice a3 G.outs.length c3);clear Mb Mt pl sM oU yw mz io jM lZ b0 b1 b2 b3;have w5:Hid (g0.grownBy ((((g0.setCell ⟨rs,0,none⟩ (Value.int IntKind.i64 (ni:Int))).setCell ⟨rs,1,none⟩ (Value.slice a1 (i2 bm jl G.lats G.lats.length).length c1)).setCell ⟨rs,2,none⟩ (Value.slice a2 (jd bm bx G.ands G.ands.length).length c2)).setCell ⟨rs,3,none⟩ (Value.slice a3 G.outs.length c3)) (some rs)):=js (js (js (oW _ _ _ _) (oW _ _ _ _)) (oW _ _ _ _)) (oW _ _ _ _);generalize World.setCell _ (⟨rs,3,none⟩:Addr) _=gH at w5 oK iA jW l0 ⊢;refine bodyPost_ret (v:= .agg #[.int .i64 (ni:Int),.slice a1 (i2 bm jl G.lats G.lats.length).length c1,.slice a2 (jd bm bx G.ands G.ands.length).length c2,.slice a3 G.outs.length c3]) (by simp[results,Tryz.results57,go_sem, *]) rfl ?_;have Rw:=w5.size;have Fz:=Ty.kept w5 (IP Ty (by omega));have Vj:=Tz.kept w5 (IP Tz (by omega));have acS:=tc.kept w5 (IP tc (by omega));have any:G.ins.toNat=ni:=by rw[vk.out];rfl
 have Dl:(kg nd G).lats=i2 bm jl G.lats G.lats.length:=by
  show i2 (g6 nd) (nd.drop (1+G.ins.toNat)) G.lats G.lats.length=_;rw[Iq.out,Ra.out,Q9.out,any];exact aeP _ _ _
 have HO:(kg nd G).ands=jd bm bx G.ands G.ands.length:=by
  show jd (g6 nd) (nd.drop (jC G)) G.ands G.ands.length=_;rw[Iq.out,Rk.out,CU.out]
 have UE:(kg nd G).outs=G.outs.map (je bm):=by
  show G.outs.map (je (g6 nd))=_;rw[Iq.out]
 have HP:(kg nd G).ins=(ni:Int):=vk.out;have bp:(i2 bm jl G.lats G.lats.length).flatMap eA.cells=((kg nd G).lats.map eA.cells).flatten:=by
  rw[Dl,List.flatMap_def]
 have aS:(jd bm bx G.ands G.ands.length).flatMap Z.cells=((kg nd G).ands.map Z.cells).flatten:=by
  rw[HO,List.flatMap_def]
 rw[bp] at Fz;rw[aS] at Vj;obtain⟨axi,yp,QW,anB⟩:=R8 Fz (by intro l hl;obtain⟨d,_,rfl⟩:=i6.1 hl;rfl) (by decide);obtain⟨axj,BO,zh,anC⟩:=R8 Vj (by intro l hl;obtain⟨d,_,rfl⟩:=i6.1 hl;rfl) (by decide);obtain⟨_,axk,axt,add,anD⟩:=s0 acS;simp only[Value.slice.injEq,true_and] at QW zh add;obtain⟨rfl,rfl⟩:=QW;obtain⟨rfl,rfl⟩:=zh;obtain⟨rfl,rfl⟩:=add;have adv:(kg nd G).ands.length<=G.ands.length:=by
  rw[HO,RN _ _ _ _ adP]
  have:=List.count_le_length (a:=true) (l:=bx.take G.ands.length)
  have O:(bx.take G.ands.length).length<=bx.length:=by rw[jx];omega
  omega
 have ay7:(kg nd G).lats.length<=G.lats.length:=by
  rw[Dl,W6 _ _ _ _ adw]
  have:=List.count_le_length (a:=true) (l:=jl.take G.lats.length)
  have O:(jl.take G.lats.length).length<=jl.length:=by rw[jx];omega
  omega
 have anz:yo w.heap.size ⟨a1,c1,a2,c2,a3,c3⟩:=⟨XC Fz (by omega),XC Vj (by omega),XC acS (by omega)⟩
 refine⟨⟨⟨a1,c1,a2,c2,a3,c3⟩,?_,?_,anz⟩,?_⟩
 ·unfold jm.cells;rw[HP,Dl,HO,UE,lb]
 ·refine⟨anB,anC,by rw[UE];exact anD,?_,?_,?_⟩
  ·unfold cd;omega
  ·unfold cd;omega
  ·rw[UE,lb];unfold cd;omega
 ·exact w4.trans (jB w5 w4.size (fun k X=>by have:=Option.some.inj X;omega))
def D3 (G:eq):List (Nat×Nat):=G.ands.map fun d=>(d.x.toNat / 2,d.y.toNat / 2)
def Co (G:eq):List Nat:=G.lats.map aru
def zE (G:eq):List Nat:=G.outs.map zH
structure HA (G:eq) (ni:Nat) (T:Nat->Prop):Prop where
 roots:∀r,r∈zE G->T r
 gate:∀(i a b:Nat),(D3 G)[i]?=some (a,b)->T (jC G+i)->T a∧T b
 latch:∀(i m:Nat),(Co G)[i]?=some m->T (1+ni+i)->T m
 ins:∀v,v<=ni->T v
structure lv (G:eq) (ni n:Nat) (T:Nat->Prop) (OA:List Nat) (s:List Bool×List Nat):Prop where
 gate:∀(i a b:Nat),(D3 G)[i]?=some (a,b)->jG s.1 (jC G+i)->jC G+i∈OA∨jC G+i∈s.2∨(jG s.1 a∧jG s.1 b)
 latch:∀(i m:Nat),(Co G)[i]?=some m->jG s.1 (1+ni+i)->1+ni+i∈OA∨1+ni+i∈s.2∨jG s.1 m
 wts:∀v,v∈s.2->ni<v∧v<n∧jG s.1 v
 ins:∀v,v<=ni->jG s.1 v
 len:s.1.length=n
 cnt:s.1.count false+s.2.length<=n
 snd:∀v,jG s.1 v->T v
theorem ary {s:List Bool×List Nat} (L:v<s.1.length):(j5 v s).1.count false+(j5 v s).2.length=s.1.count false+s.2.length:=by
 unfold j5;split
 ·rfl
 ·next ag =>
  have:=acd L ag
  simp only[List.length_append,List.length_singleton];omega
theorem lv.need {G:eq} {OA:List Nat} {s:List Bool×List Nat} (h:lv G ni n T OA s) (L:v<n) (FC:T v):lv G ni n T OA (j5 v s):=by
 have ar:=ary (s:=s) (v:=v) (by rw[h.len];exact L);have hl:=afk v s;have mX:=h.cnt;have hY:=h.len;refine⟨?_,?_,?_,fun x J=>K5 (h.ins x J),by omega,by omega,?_⟩
 ·intro i a b aY J;unfold j5 at J ⊢;split at J
  ·next e=>rw[if_pos e];exact h.gate i a b aY J
  ·next e =>
   rw[if_neg e];rcases Xx J with aS | J
   ·exact .inr (.inl (by rw[aS];simp))
   ·rcases h.gate i a b aY J with F | F | F
    ·exact .inl F
    ·exact .inr (.inl (o7.2 (.inl F)))
    ·exact .inr (.inr ⟨Oq F.1,Oq F.2⟩)
 ·intro i m aY J;unfold j5 at J ⊢;split at J
  ·next e=>rw[if_pos e];exact h.latch i m aY J
  ·next e =>
   rw[if_neg e];rcases Xx J with aS | J
   ·exact .inr (.inl (by rw[aS];simp))
   ·rcases h.latch i m aY J with F | F | F
    ·exact .inl F
    ·exact .inr (.inl (o7.2 (.inl F)))
    ·exact .inr (.inr (Oq F))
 ·intro x J;unfold j5 at J ⊢;split at J
  ·next e=>rw[if_pos e];exact h.wts x J
  ·next e =>
   rw[if_neg e];rcases o7.1 J with J | J
   ·have:=h.wts x J
    exact⟨this.1,this.2.1,Oq this.2.2⟩
   ·rw[List.mem_singleton.1 J];refine⟨?_,L,afy (by omega)⟩;rcases Nat.lt_or_ge ni v with F | F
    ·exact F
    ·exact absurd (h.ins v F) e
 ·intro x J;unfold j5 at J;split at J
  ·exact h.snd x J
  ·rcases Xx J with rfl | J
   ·exact FC
   ·exact h.snd x J
theorem lv.begun {G:eq} (hF:lc G ni n) (k:Nat) (X:k<=G.lats.length) (FC:∀v,v<1+ni+k->T v):lv G ni n T [] (qO ni k (n - (1+ni) - k)):=by
 have F:=hF.first;have O:=hF.all;have kf:∀v,jG (qO ni k (n - (1+ni) - k)).1 v↔v<1+ni+k:=by
  intro v;unfold jG qO;rcases Nat.lt_or_ge v (1+ni+k) with h | h
  ·rw[mS (by simpa using h),List.getElem?_replicate,if_pos h];simp[h]
  ·rw[lu (by simpa using h),List.getElem?_replicate];split <;> simp <;> omega
 refine⟨fun i a b _ L=>?_,fun i m _ L=>?_,fun v L=>?_,fun v L=>(kf v).2 (by omega),?_,?_,fun v L=>FC v ((kf v).1 L)⟩
 ·have:=(kf _).1 L;omega
 ·have:=(kf _).1 L
  exact .inr (.inl (i6.2 ⟨i,om.2 (by omega),rfl⟩))
 ·obtain⟨i,hi,rfl⟩:=i6.1 L
  have:=om.1 hi
  exact⟨by omega,by omega,(kf _).2 (by omega)⟩
 ·unfold qO;simp;omega
 ·unfold qO;simp only[List.count_append,List.count_replicate,List.length_map,List.length_range];simp;omega
theorem lv.look {G:eq} (hF:lc G ni n) (uv:HA G ni T) {nd:List Bool} {wt:List Nat} (h:lv G ni n T [] (nd,wt++[v])) :
  lv G ni n T [] (xI G v (nd,wt))∧AG (xI G v (nd,wt))<AG (nd,wt++[v])∧ni<v∧v<n∧(∀x,jG nd x->jG (xI G v (nd,wt)).1 x):=by
 have zn:=h.wts v (by simp);have hl:nd.length=n:=h.len;have rL:v<n:=zn.2.1;have ar:nd.count false+wt.length<=n:=by have:=h.cnt;simp at this;omega
 have f:∀x,x∈wt++[v]->x∈[v]∨x∈wt:=fun x J=>(o7.1 J).symm
 have acU:T v:=h.snd v zn.2.2;have aI:lv G ni n T [v] (nd,wt):=by
  refine⟨fun i a b aY J=>?_,fun i m aY J=>?_,fun x J=>h.wts x (o7.2 (.inl J)),h.ins,hl,ar,h.snd⟩
  ·rcases h.gate i a b aY J with F | F | F
   ·cases F
   ·rcases f _ F with O | O
    ·exact .inl O
    ·exact .inr (.inl O)
   ·exact .inr (.inr F)
  ·rcases h.latch i m aY J with F | F | F
   ·cases F
   ·rcases f _ F with O | O
    ·exact .inl O
    ·exact .inr (.inl O)
   ·exact .inr (.inr F)
 have done:∀s,lv G ni n T [v] s->(∀(i a b:Nat),(D3 G)[i]?=some (a,b)->jC G+i=v->jG s.1 a∧jG s.1 b)->(∀(i m:Nat),(Co G)[i]?=some m->1+ni+i=v->jG s.1 m)->lv G ni n T [] s:=by
  intro s g af ag;refine⟨fun i a b aY J=>?_,fun i m aY J=>?_,g.wts,g.ins,g.len,g.cnt,g.snd⟩
  ·rcases g.gate i a b aY J with F | F
   ·exact .inr (.inr (af i a b aY (List.mem_singleton.1 F)))
   ·exact .inr F
  ·rcases g.latch i m aY J with F | F
   ·exact .inr (.inr (ag i m aY (List.mem_singleton.1 F)))
   ·exact .inr F
 have aB:AG (nd,wt)<AG (nd,wt++[v]):=by unfold AG;simp
 have F:=hF.first;have O:=hF.all;refine⟨?_,?_,zn.1,rL,?_⟩
 ·unfold xI;split
  ·next ah =>
   have hi:v - 1 - G.ins.toNat<G.lats.length:=by rw[hF.ins];have:=zn.1;omega
   obtain⟨l,ks⟩:=bS hi;rw[ks];have bO:=hF.lats l (bn ks);have jE:(Co G)[v - 1 - G.ins.toNat]?=some (l.next.toNat / 2):=by unfold Co;rw[fT,ks];rfl
   have af:=aI.need (v:=l.next.toNat / 2) (by omega) (uv.latch _ _ jE (by rw[show 1+ni+(v - 1 - G.ins.toNat)=v by rw[hF.ins];omega];exact acU));refine done _ af (fun i a b aY e=>by omega) (fun i x J e=>?_);have pp:i=v - 1 - G.ins.toNat:=by rw[hF.ins];omega
   rw[pp,jE] at J;cases J;exact RZ (by simp only;omega)
  ·next ah =>
   have hi:v - jC G<G.ands.length:=by omega
   obtain⟨d,U⟩:=bS hi;rw[U];have bO:=hF.ands _ d U;have Cc:(D3 G)[v - jC G]?=some (d.x.toNat / 2,d.y.toNat / 2):=by unfold D3;rw[fT,U];rfl
   obtain⟨ad,D⟩:=uv.gate _ _ _ Cc (by rw[show jC G+(v - jC G)=v by omega];exact acU);have bY:=aI.need (v:=d.x.toNat / 2) (by omega) ad;have bK:=bY.need (v:=d.y.toNat / 2) (by omega) D;refine done _ bK (fun i a b aY e=>?_) (fun i x J e=>?_)
   ·have pp:i=v - jC G:=by omega
    rw[pp,Cc] at aY;have bp:d.x.toNat / 2=a∧d.y.toNat / 2=b:=by simpa using aY
    rw[<-bp.1,<-bp.2];exact⟨K5 (RZ (by simp only;omega)),RZ (by rw[bY.len];omega)⟩
   ·have:=(cr.1 J).1
    unfold Co at this;simp at this;omega
 ·refine Nat.lt_of_le_of_lt ?_ aB;unfold xI;split
  ·next ah =>
   split
   ·next l ks =>
    have bO:=hF.lats l (bn ks);exact Xo (by simp only;omega)
   ·exact aL _
  ·next ah =>
   split
   ·next d U =>
    have bO:=hF.ands _ d U;have X:=(cr.1 U).1;exact bL (Xo (by rw[afk];simp only;omega)) (Xo (by simp only;omega))
   ·exact aL _
 ·intro x J;unfold xI;split
  ·split
   ·exact K5 J
   ·exact J
  ·split
   ·exact K5 (K5 J)
   ·exact J
theorem jP.mark {bl E g:Nat} {s:List Bool×List Nat} {jv:Value} (h:jP C w bl E g n s jv) (k:Nat) (eu:C<=w.heap.size):jP C (w.setCell ⟨g,k,none⟩ (.bool true)) bl E g n (s.1.set k true,s.2) jv∧Below C w (w.setCell ⟨g,k,none⟩ (.bool true)):=by
 obtain⟨F,af⟩:=h.nd.stored k (.bool true);rw[show Value.bool true=gi true from rfl,<-List.map_set] at F;have xy:=(h.nd.lt g rfl).1;refine⟨⟨(af.cell_far ⟨bl,0,none⟩ h.lt (by simpa using h.ne)).trans h.c0,(af.cell_far ⟨bl,1,none⟩ h.lt (by simpa using h.ne)).trans h.c1,(af.cell_far ⟨bl,2,none⟩ h.lt (by simpa using h.ne)).trans h.c2,F,h.wt.kept af (.inr h.ng),fun j=>(af.frozen_far ⟨bl,j,none⟩ h.lt (by simpa using h.ne)).trans (h.fr j),h.ge,bk h.lt af.size,h.ne,h.nw,h.ng⟩,jB af eu (fun k X=>by have:=Option.some.inj X;omega)⟩
theorem atA {e k cap:Nat} {xs:List Value} {x:Value} (h:w.ownsRow C e 1 (.slice a (k+1) cap) (k+1) (xs++[x])):∃aX,a=some ⟨aX,0,none⟩∧k+1<=cap∧w.ownsRow C e 1 (.slice a k cap) k xs∧w.cell? ⟨aX,k,none⟩=some x:=by
 have hl:=h.1;simp at hl;rcases h.2 with ⟨aI,_⟩ | ⟨aX,zb,hV,L,D,af,lF,lU,jD,eg⟩
 ·cases aI
 ·simp only[Value.slice.injEq] at L;obtain⟨rfl,_,rfl⟩:=L;refine⟨aX,rfl,lF,⟨by omega,.inr ⟨aX,cap,hV,rfl,D,af,by omega,lU,jD,?_⟩⟩,?_⟩
  ·have:=congrArg (List.take k) eg
   rw[List.take_take,List.take_left' (by omega)] at this;rw[<-this]
   congr 1;omega
  ·rw[h.cellAt k (by omega),lu (by omega)];simp[hl]
theorem ab9 (wc:World) (C bl E g n ni:Nat) (jv:Value) (hO:Hid (jP C wc bl E g n (List.replicate n false,[]) jv)) (eu:C<=wc.heap.size) (ag:n<=100000000) (Rj:1+ni<=n) (b9:Act->World->Prop) (eV:Exit->Act->World->Prop) 
  (dM:Hid (∀(B:World) {rS Gm Gn Gp Gq Cv Cw Gr Gs:Value},jP C B bl E g n (qO ni 0 (n - (1+ni))) jv∧Below C wc B->b9 ⟨#[bX,dC,en,e1,fx,.pointer (some ⟨bl,0,none⟩),rS,ec,dL,ep,cz,gy,fS,eF,ex,ey,cM,cA,cB,cC,cD,.int .i64 (1+(ni:Int)),Gm,Gn,Gp,Gq,Cv,Cw,Gr,Gs,c7,dD,dE,dF,dh,dO,dP,dr,dt,di,dj,c8,c9,db,dd,de,df,dG,dH,du,cZ,c6,dw,dx,dQ,dy,dz,dI,dJ,dK,dk,dl,dm,dn,dR,dS,dT,dU,dV,dW,dX,dY,dZ,d0,d3,d4,d5,d6,d7,d8,ei,ed],[]⟩ B)) :
  Code.wp Tryz.prog ((Tryz.f28.body.bind (jh 0)).getD .skip) (Exit.then b9 eV) ⟨#[bX,dC,en,e1,fx,.pointer (some ⟨bl,0,none⟩),ea,ec,dL,ep,cz,gy,fS,eF,ex,ey,cM,cA,cB,cC,cD,.int .i64 (1+(ni:Int)),.int .i64 0,cH,cW,cX,cY,cN,cI,eo,c7,dD,dE,dF,dh,dO,dP,dr,dt,di,dj,c8,c9,db,dd,de,df,dG,dH,du,cZ,c6,dw,dx,dQ,dy,dz,dI,dJ,dK,dk,dl,dm,dn,dR,dS,dT,dU,dV,dW,dX,dY,dZ,d0,d3,d4,d5,d6,d7,d8,ei,ed],[]⟩ wc:=by
 conv=>arg 2;whnf
 go_wp2_with fail
 go_loopw [22] (fun aq B=>∃(k:Nat),k<=1+ni∧aq = .int .i64 k∧Hid (jP C B bl E g n (List.replicate k true++List.replicate (n - k) false,[]) jv)∧Hid (Below C wc B)) (fun aq _=>1+ni - (intOf aq).toNat)
 case atStart=>exact⟨0,cE _,rfl,by show jP _ _ _ _ _ _ _ _;have:=hO.out;simpa using this,ax _ _⟩
 case round =>
  obtain⟨k,X,rfl,jo,aD⟩:=hrel;by_cases aB:k<1+ni
  ·have fa:(k:Int)<(1:Int)+(ni:Int):=by omega
   have bM:=bF ((k:Int)+1);have B7:(k:Int)<(n:Int):=by omega
   have c1:=jo.c1;have jt:=jo.nd.cellAt k (by omega);have h1:=jo.nd.frozenAt k;have hold:∃i4,wr.cell? ⟨g,k,none⟩=some i4:=by
    rw[jt];have jR:k<((List.replicate k true++List.replicate (n - k) false).map gi).length:=by simp;omega
    exact⟨_,ct jR⟩
   obtain⟨i4,hold⟩:=hold;have cO:=K (jo.mark k (by have:=aD.size;omega));have ez:Hid ((List.replicate k true++List.replicate (n - k) false).set k true=List.replicate (k+1) true++List.replicate (n - (k+1)) false):=by
    show _=_;rw[show n - k=(n - (k+1))+1 by omega,List.replicate_succ (n:=n - (k+1))]
    have:=Lv (List.replicate k true) false true (List.replicate (n - (k+1)) false)
    rw[List.length_replicate] at this;rw[this,List.replicate_succ' (n:=k)];simp
   clear jt;go_wp2_with fail
   generalize xr:World.setCell wr _ _=al;rw[xr] at cO;have xe:Hid (jP C al bl E g n (List.replicate (k+1) true++List.replicate (n - (k+1)) false,[]) jv):=by
    have:=cO.1
    simp only at this;rw[ez.out] at this;exact this
   have cV:Hid (Below C wc al):=aD.trans cO.2;clear xr cO hold h1 jo aD ez c1;go_wp2;go_roundw
   case measure=>simp[intOf];omega
   exact⟨k+1,by omega,by simp,xe.out,cV⟩
  ·have cQ:¬((k:Int)<(1:Int)+(ni:Int)):=by omega
   have ou:Hid (jP C wr bl E g n (qO ni 0 (n - (1+ni))) jv):=by
    have:=jo.out
    rw[show k=1+ni by omega] at this;exact this
   clear jo;go_wp2;exact dM _ ⟨ou,aD⟩
theorem alA (wc:World) (C bl E g n ni yL:Nat) (jv:Value) (hO:Hid (jP C wc bl E g n (qO ni 0 (n - (1+ni))) jv)) (eu:C<=wc.heap.size) (ag:n<=100000000) (Rj:1+ni+yL<=n) (gq:wc.cell? ⟨E,0,none⟩=some (.int .i64 (ni:Int))) (lh:E<C) (b9:Act->World->Prop) (eV:Exit->Act->World->Prop) 
  (dM:Hid (∀(B:World) {Gz Cx Cy Cz Gw Gy Lm Ln Lo Lp Lq Lr Ls Lt:Value},(∃kk,jP C B bl E g n (qO ni yL (n - (1+ni) - yL)) kk)∧Below C wc B->b9 ⟨#[.pointer (some ⟨E,0,none⟩),dC,en,e1,fx,.pointer (some ⟨bl,0,none⟩),ea,Gz,dL,ep,cz,gy,fS,eF,ex,ey,cM,cA,cB,cC,cD,cS,cT,cH,cW,cX,cY,cN,cI,eo,c7,dD,dE,dF,dh,.int .i64 (yL:Int),Cx,Cy,Cz,Gw,Gy,Lm,Ln,Lo,Lp,Lq,Lr,Ls,Lt,du,cZ,c6,dw,dx,dQ,dy,dz,dI,dJ,dK,dk,dl,dm,dn,dR,dS,dT,dU,dV,dW,dX,dY,dZ,d0,d3,d4,d5,d6,d7,d8,ei,ed],[]⟩ B)) :
  Code.wp Tryz.prog ((Tryz.f28.body.bind (jh 2)).getD .skip) (Exit.then b9 eV) ⟨#[.pointer (some ⟨E,0,none⟩),dC,en,e1,fx,.pointer (some ⟨bl,0,none⟩),ea,ec,dL,ep,cz,gy,fS,eF,ex,ey,cM,cA,cB,cC,cD,cS,cT,cH,cW,cX,cY,cN,cI,eo,c7,dD,dE,dF,dh,.int .i64 (yL:Int),.int .i64 0,dr,dt,di,dj,c8,c9,db,dd,de,df,dG,dH,du,cZ,c6,dw,dx,dQ,dy,dz,dI,dJ,dK,dk,dl,dm,dn,dR,dS,dT,dU,dV,dW,dX,dY,dZ,d0,d3,d4,d5,d6,d7,d8,ei,ed],[]⟩ wc:=by
 conv=>arg 2;whnf
 go_wp2_with fail
 go_loopw [36] (fun aq B=>∃(k:Nat) (kk:Value),k<=yL∧aq = .int .i64 k∧Hid (jP C B bl E g n (qO ni k (n - (1+ni) - k)) kk)∧Hid (Below C wc B)) (fun aq _=>yL - (intOf aq).toNat)
 case atStart=>exact⟨0,jv,cE _,rfl,by show jP _ _ _ _ _ _ _ _;have:=hO.out;simpa using this,ax _ _⟩
 case round =>
  obtain⟨k,kk,X,rfl,jo,aD⟩:=hrel;by_cases aB:k<yL
  ·have fa:(k:Int)<(yL:Int):=by omega
   have bM:=bF ((k:Int)+1);have ko:=bF ((1:Int)+(ni:Int));have bp:=bF ((1:Int)+(ni:Int)+(k:Int));have aS:=bF (2*((1:Int)+(ni:Int)+(k:Int)));have kT:=(aD.cell (p:=⟨E,0,none⟩) lh).trans gq;have gY:=aD.size;have tg:Hid (Calls Tryz.prog 55 #[.pointer (some ⟨bl,0,none⟩),.int .i64 (2*((1:Int)+(ni:Int)+(k:Int)))] wr fun e bs=>(∃x,e = .returned x)∧(∃kk,jP C bs bl E g n (qO ni (k+1) (n - (1+ni) - (k+1))) kk)∧Below C wr bs):=by
    have:=Om C wr bl E g n _ kk jo (by omega) ag (2*((1:Int)+(ni:Int)+(k:Int))) (1+ni+k) (by omega) (by omega) (by omega) (by unfold qO;simp;omega)
    rw[show n - (1+ni) - k=(n - (1+ni) - (k+1))+1 by omega,akU] at this;exact this
   go_wp2_with fail
   go_at_call 55;refine tg.mono ?_;rintro e al ⟨⟨_,rfl⟩,⟨O3,zm⟩,nM⟩;have cV:Hid (Below C wc al):=aD.trans nM
   change Hid _ at zm
   clear nM tg jo aD kT;go_wp2;go_roundw
   case measure=>simp[intOf];omega
   exact⟨k+1,O3,by omega,by simp,zm.out,cV⟩
  ·have cQ:¬((k:Int)<(yL:Int)):=by omega
   have ou:Hid (jP C wr bl E g n (qO ni yL (n - (1+ni) - yL)) kk):=by
    have:=jo.out
    rw[show k=yL by omega] at this;exact this
   clear jo;go_wp2;exact dM _ ⟨⟨kk,ou⟩,aD⟩
theorem aca (wc:World) (G:eq) (T:Nat->Prop) (C Y bl E g n ni:Nat) (a:Option Addr) (c:Nat) (mg:List Bool×List Nat) (jv:Value) (hO:Hid (jP C wc bl E g n mg jv)) (w6:Hid (lv G ni n T [] mg)) (jp:Hid (HA G ni T)) (eu:C<=wc.heap.size) (ag:n<=100000000) (yl:Hid (cm Y wc a 1 (G.outs.map j4))) (uu:Y<=C) (aU:G.outs.length<=100000000) (bO:∀z,z∈G.outs->0<=z∧z<2*(n:Int)) (b9:Act->World->Prop) (eV:Exit->Act->World->Prop) 
  (dM:Hid (∀(B:World) {X4 XY XZ OG OH OI I8 I9:Value},(∃s kk,jP C B bl E g n s kk∧lv G ni n T [] s∧(∀r,r∈zE G->jG s.1 r))∧Below C wc B->b9 ⟨#[bX,dC,en,e1,fx,.pointer (some ⟨bl,0,none⟩),ea,ec,dL,X4,cz,gy,fS,eF,ex,ey,cM,cA,cB,cC,cD,cS,cT,cH,cW,cX,cY,cN,cI,eo,c7,dD,dE,dF,dh,dO,dP,dr,dt,di,dj,c8,c9,db,dd,de,df,dG,dH,du,cZ,c6,.slice a G.outs.length c,.int .i64 (G.outs.length:Int),XY,XZ,OG,OH,OI,I8,I9,dl,dm,dn,dR,dS,dT,dU,dV,dW,dX,dY,dZ,d0,d3,d4,d5,d6,d7,d8,ei,ed],[]⟩ B)) :
  Code.wp Tryz.prog ((Tryz.f28.body.bind (jh 4)).getD .skip) (Exit.then b9 eV) ⟨#[bX,dC,en,e1,fx,.pointer (some ⟨bl,0,none⟩),ea,ec,dL,ep,cz,gy,fS,eF,ex,ey,cM,cA,cB,cC,cD,cS,cT,cH,cW,cX,cY,cN,cI,eo,c7,dD,dE,dF,dh,dO,dP,dr,dt,di,dj,c8,c9,db,dd,de,df,dG,dH,du,cZ,c6,.slice a G.outs.length c,.int .i64 (G.outs.length:Int),.int .i64 0,dy,dz,dI,dJ,dK,dk,dl,dm,dn,dR,dS,dT,dU,dV,dW,dX,dY,dZ,d0,d3,d4,d5,d6,d7,d8,ei,ed],[]⟩ wc:=by
 conv=>arg 2;whnf
 go_wp2_with fail
 go_loopw [54] (fun aq B=>∃(k:Nat) (s:List Bool×List Nat) (kk:Value),k<=G.outs.length∧aq = .int .i64 k∧Hid (jP C B bl E g n s kk)∧Hid (lv G ni n T [] s)∧Hid (∀r,r∈(G.outs.take k).map zH->jG s.1 r)∧Hid (Below C wc B)) (fun aq _=>G.outs.length - (intOf aq).toNat)
 case atStart=>exact⟨0,mg,jv,cE _,rfl,hO.out,w6.out,by intro r ak;simp at ak,ax _ _⟩
 case round =>
  obtain⟨k,s,kk,X,rfl,jo,tb,bR,aD⟩:=hrel;by_cases aB:k<G.outs.length
  ·obtain⟨z,ao⟩:∃z,G.outs[k]?=some z:=bS aB;obtain⟨bG,ck,bQ,gK,cx⟩:=yl.intR ao;subst bQ;have fa:(k:Int)<(G.outs.length:Int):=by omega
   have bM:=bF ((k:Int)+1);have c1:=(aD.cell (p:=⟨bG,ck+k,none⟩) (by show bG<C;omega)).trans cx;have gY:=aD.size;have vD:=bO z (bn ao);have tg:Hid (Calls Tryz.prog 55 #[.pointer (some ⟨bl,0,none⟩),.int .i64 z] wr fun e bs=>(∃x,e = .returned x)∧(∃kk,jP C bs bl E g n (j5 (zH z) s) kk)∧Below C wr bs):=Om C wr bl E g n s kk jo (by omega) ag z (zH z) vD.1 rfl (by unfold zH;omega) (by have:=tb.cnt;omega);have aZ:Hid (lv G ni n T [] (j5 (zH z) s)):=tb.need (by unfold zH;omega) (jp.roots _ (i6.2 ⟨z,bn ao,rfl⟩));have Hg:Hid (∀r,r∈(G.outs.take (k+1)).map zH->jG (j5 (zH z) s).1 r):=by
    intro r ak;rw[OO ao,g1] at ak;rcases o7.1 ak with ak | ak
    ·exact K5 (bR r ak)
    ·have e:r=zH z:=by simpa using ak
     rw[e];exact RZ (by rw[tb.len];unfold zH;omega)
   generalize j5 (zH z) s=uP at *;clear cx ao vD bR tb jo;go_wp2_with fail
   go_at_call 55;refine tg.mono ?_;rintro e al ⟨⟨_,rfl⟩,⟨O3,zm⟩,nM⟩;have cV:Hid (Below C wc al):=aD.trans nM
   change Hid _ at zm
   clear nM tg aD c1;go_wp2;go_roundw
   case measure=>simp[intOf];omega
   exact⟨k+1,uP,O3,by omega,by simp,zm.out,aZ.out,Hg.out,cV⟩
  ·have cQ:¬((k:Int)<(G.outs.length:Int)):=by omega
   have ou:Hid (∀r,r∈zE G->jG s.1 r):=by
    have:=bR.out
    rw[fQ (by omega)] at this;exact this
   clear bR;go_wp2;exact dM _ ⟨⟨s,kk,jo.out,tb.out,ou⟩,aD⟩
theorem acb (wc:World) (G:eq) (T:Nat->Prop) (S:jm) (C Y bl E g n ni:Nat) (ch:Hid (lc G ni n)) (mg:List Bool×List Nat) (jv:Value) (hO:Hid (jP C wc bl E g n mg jv)) (w6:Hid (lv G ni n T [] mg)) (jp:Hid (HA G ni T)) (E2:Hid (∀r,r∈zE G->jG mg.1 r)) (eu:C<=wc.heap.size) (ag:n<=100000000) (mE:Hid (o9 wc E S G)) (FK:E<C) (gg:Hid (iB Y wc S G)) (uu:Y<=C) (b9:Act->World->Prop) (eV:Exit->Act->World->Prop) 
  (dM:Hid (∀(B:World) {OD XT Ja Jb Jc vM vN vO vP vQ vR vS vT vU vV vW vX vY vZ v1 v2 yR:Value},(∃nd kk,jP C B bl E g n (nd,[]) kk∧lv G ni n T [] (nd,[])∧(∀r,r∈zE G->jG nd r))∧Below C wc B->b9 ⟨#[bX,dC,en,e1,fx,.pointer (some ⟨bl,0,none⟩),ea,ec,dL,ep,OD,XT,fS,eF,ex,ey,cM,cA,cB,cC,cD,cS,cT,cH,cW,cX,cY,cN,cI,eo,c7,dD,dE,dF,dh,dO,dP,dr,dt,di,dj,c8,c9,db,dd,de,df,dG,dH,du,cZ,c6,dw,dx,dQ,dy,dz,dI,dJ,dK,dk,Ja,Jb,Jc,vM,vN,vO,vP,vQ,vR,vS,vT,vU,vV,vW,vX,vY,vZ,v1,v2,yR,ed],[]⟩ B)) :
  Code.wp Tryz.prog ((Tryz.f28.body.bind (jh 6)).getD .skip) (Exit.then b9 eV) ⟨#[bX,dC,en,e1,fx,.pointer (some ⟨bl,0,none⟩),ea,ec,dL,ep,cz,gy,fS,eF,ex,ey,cM,cA,cB,cC,cD,cS,cT,cH,cW,cX,cY,cN,cI,eo,c7,dD,dE,dF,dh,dO,dP,dr,dt,di,dj,c8,c9,db,dd,de,df,dG,dH,du,cZ,c6,dw,dx,dQ,dy,dz,dI,dJ,dK,dk,dl,dm,dn,dR,dS,dT,dU,dV,dW,dX,dY,dZ,d0,d3,d4,d5,d6,d7,d8,ei,ed],[]⟩ wc:=by
 conv=>arg 2;whnf
 go_wp2_with fail
 go_loopg [] (AG mg) (fun gk B=>∃(s:List Bool×List Nat) (kk:Value),gk=AG s∧Hid (jP C B bl E g n s kk)∧Hid (lv G ni n T [] s)∧Hid (∀r,r∈zE G->jG s.1 r)∧Hid (Below C wc B))
 case atStart=>exact⟨mg,jv,rfl,hO.out,w6.out,E2.out,ax _ _⟩
 case round =>
  obtain⟨s,kk,adk,jo,tb,bR,aD⟩:=hrel;subst adk;obtain⟨nd,wt⟩:=s;obtain⟨a,c,apE⟩:=Gh jo.wt;subst apE;simp only at jo tb bR;rcases List.eq_nil_or_concat wt with Rz | ⟨Jo,v,Rz⟩
  ·subst Rz;have c2:wr.cell? ⟨bl,2,none⟩=some (.slice a 0 c):=jo.c2;go_wp2;exact dM _ ⟨⟨nd,_,jo.out,tb.out,bR⟩,aD⟩
  ·rw[List.concat_eq_append] at Rz;subst Rz;obtain⟨rN,mr⟩:=cf (Jo.length);have VC:=tb.cnt;simp only[List.length_append,List.length_singleton] at VC;have ayI:rN+1<=n:=by omega
   have a6:=K jo.wt;have c2:=jo.c2;simp only[List.length_append,List.length_singleton,<-mr,List.map_append,List.map_cons,List.map_nil] at a6 c2;obtain⟨aX,bQ,anZ,acP,gJ⟩:=atA a6;subst bQ;obtain⟨acJ,acM,Ce,rL,acR⟩:=tb.look ch jp;have Hg:Hid (∀r,r∈zE G->jG (xI G v (nd,Jo)).1 r):=fun r ak=>acR r (bR r ak)
   have qs:=jo.fr 2;have Kz:(rN:Int)<=(c:Int):=by omega
   have adR:=jo.nw;have adN:=jo.ng;have HP:IntKind.i64.wrap ((rN:Int)+1 - 1)=(rN:Int):=by rw[mj _ (by omega) (by omega)];omega
   have axJ:((rN:Int)+1 - 1)=(rN:Int):=by omega
   have ay3:(rN:Int)<(rN:Int)+1:=by omega
   have DI:(0:Int)<((rN+1:Nat):Int):=by omega
   have l8:IntKind.i64.wrap (((rN+1:Nat):Int) - 1)=(rN:Int):=by rw[mj _ (by omega) (by omega)];omega
   have bz:(rN:Int)<((rN+1:Nat):Int):=by omega
   have alN:wr.cell? ⟨aX,rN,none⟩=some (.int .i64 (v:Int)):=gJ;have qi:=K acP
   change Hid _ at acJ acM mr
   clear acR gJ acP a6;go_upto_region 22 with fail
   generalize xr:World.setCell wr _ _=al;have zi:wr.grownBy al (some bl):=by rw[<-xr];exact oW _ _ _ _
   have xB:∀j,j≠2->al.cell? ⟨bl,j,none⟩=wr.cell? ⟨bl,j,none⟩:=fun j aT=>by
    rw[<-xr];exact oL (h:=fun e=>aT (by cases e;rfl)) ..
   have FS:al.cell? ⟨bl,2,none⟩=some (.slice (some ⟨aX,0,none⟩) rN c):=by rw[<-xr];exact on (h:=c2) ..
   have hG:aX≠bl:=fun e=>adR (by rw[e];rfl)
   have np:aX≠g:=fun e=>adN (by rw[e];rfl)
   have acF:Below C wr al:=jB zi (by have:=aD.size;omega) (fun k X=>by have:=Option.some.inj X;have:=jo.ge;omega);have xe:Hid (jP C al bl E g n (nd,Jo) (.slice (some ⟨aX,0,none⟩) rN c)):=by
    refine⟨(xB 0 (by decide)).trans jo.c0,(xB 1 (by decide)).trans jo.c1,FS,jo.nd.kept zi (.inr (fun e=>jo.ne (by cases e;rfl))),?_,fun j=>?_,jo.ge,bk jo.lt zi.size,jo.ne,fun e=>hG (by cases e;rfl),fun e=>np (by cases e;rfl)⟩
    ·show World.ownsRow _ _ _ _ _ Jo.length _;rw[<-mr.out];exact qi.kept zi (.inr (fun e=>hG (by cases e;rfl)))
    ·rw[<-xr];exact(s6 _ _ _ _).trans (jo.fr j)
   have cV:Hid (Below C wc al):=aD.trans acF;have zm:=cV.size;have Hp:Hid (Calls Tryz.prog 56 #[.pointer (some ⟨bl,0,none⟩),.int .i64 (v:Int)] al fun e bs=>(∃x,e = .returned x)∧(∃kk,jP C bs bl E g n (xI G v (nd,Jo)) kk)∧Below C al bs):=aqQ C Y al bl E g n ni S G ch (nd,Jo) _ xe (by omega) (mE.to FK cV) FK (gg.to (cV.mono uu)) uu v Ce rL (by simp only;rw[<-mr.out];omega);generalize xI G v (nd,Jo)=rS at *;clear xr zi xB FS acF jo aD tb bR qi c2 alN qs xe adR adN;go_wp2_with fail
   go_at_call 56;refine Hp.mono ?_;rintro e aH ⟨⟨_,rfl⟩,⟨O4,FZ⟩,Dw⟩;have lx:Hid (Below C wc aH):=cV.trans Dw
   change Hid _ at FZ
   clear Dw Hp cV;go_wp2
   go_roundg (AG rS)
   case measure=>exact acM
   case rel=>exact⟨rS,O4,rfl,FZ.out,acJ.out,Hg.out,lx⟩
end Go.Proofs.YtcbcenfjigcfkaaGreatDoor
