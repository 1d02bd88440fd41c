import Derived.Test.YtcbcenfjigcfkaaGreatDoorK28
set_option maxRecDepth 100000
set_option maxHeartbeats 40000000
namespace Go.Proofs.YtcbcenfjigcfkaaGreatDoor
open Go.RowKit
variable {k:Nat}
theorem K4 (w:World) (S:dp) (N:aR):th (w.alloc (.cells (S.cells N) 28)) w.heap.size S N:=fun j v L=>by
 exact(ja rfl).trans L
theorem th.to {w B:World} {ab:Nat} {S:dp} {N:aR} (h:th w ab S N) (D:V w B):th B ab S N:=fun j v L=>by
 have ar:=h j v L;exact(D.cell (p:=⟨ab,j,none⟩) (World.block_lt_of_cell? _ _ ar)).trans ar
theorem at1 {N:aR} (aG:er N=true) (F:N.regs.length<=1048576) (k:Nat):h4 (N.regs.take k)<=33554432:=by
 have P:=q1 aG
 have:=CC (fun r:l4=>r.width.toNat) 32 (N.regs.take k) (fun r ak=>by have:=(P.reg r (su ak)).1;omega)
 rw[jx] at this;unfold h4;omega
theorem aq3 {N:aR} (aG:er N=true) (O:N.mems.length<=1048576) (k:Nat):ha (N.mems.take k)<=8589934592:=by
 have P:=q1 aG
 have:=CC (fun r:hf=>r.width.toNat*r.words.toNat) 8192 (N.mems.take k) (fun r ak=>by
  have:=P.mem r (su ak)
  exact Nat.mul_le_mul (show r.width.toNat<=32 by omega) (show r.words.toNat<=256 by omega))
 rw[jx] at this;unfold ha;omega
theorem atx {N:aR} (aG:er N=true) (aW:N.outs.length<=1048576) (k:Nat):ki N (N.outs.take k)<=33554432:=by
 have:=CC (fun a:Int=>(f2 N a).toNat) 32 (N.outs.take k) (fun a _=>by
  unfold f2;cases e:N.nodes[a.toNat]? with
  | none=>simp
  | some d=>have:=Cp aG (bn e);simp;omega)
 rw[jx] at this;unfold ki;omega
theorem arB (Y:Nat) (w:World) (S:dp) (N:aR) (h:eM Y w S N) (aM:Y<=w.heap.size) (aG:er N=true) (F:N.regs.length<=1048576) (O:N.mems.length<=1048576) :
  Calls Tryz.prog 9 #[.agg (S.cells N)] w fun e B=>e = .returned (.int .i64 ((h4 N.regs+ha N.mems:Nat):Int))∧V w B:=by
 have P:=K (q1 aG);have mU:Hid (∀k,h4 (N.regs.take k)<=33554432):=at1 aG F;have C0:Hid (∀k,ha (N.mems.take k)<=8589934592):=aq3 aG O;unfold dp.cells;go_enter Tryz.func9,Tryz.ntmps9
 go_upto_region 1 with fail
 generalize av:World.alloc w _=I;obtain⟨ab,cR⟩:=cf (w.heap.size);have nY:Hid (V w I):=by rw[<-av];exact(ax _ _).alloc (aL _) _
 have gO:Hid (th I ab S N):=by rw[<-av,cR];exact K4 w S N
 rw[<-cR];have gg:Hid (eM Y I S N):=h.to (nY.mono aM);clear av cR h;obtain⟨Dc,Mu⟩:∃x,Hid (x=h4 N.regs):=⟨_,rfl⟩
 have eX:I.cell? ⟨ab,2,none⟩=some (.slice S.a2 N.regs.length S.c2):=gO 2 _ rfl;have fH:I.cell? ⟨ab,3,none⟩=some (.slice S.a3 N.mems.length S.c3):=gO 3 _ rfl;go_wp2_with fail
 go_loopw [3,4] (fun o5 aq B=>∃(k:Nat),k<=N.regs.length∧aq = .int .i64 k∧o5 = .int .i64 ((h4 (N.regs.take k):Nat):Int)∧I=B) (fun _ aq _=>N.regs.length - (intOf aq).toNat)
 case atStart=>exact⟨0,cE _,rfl,rfl,rfl⟩
 case round =>
  obtain⟨k,X,rfl,rfl,rfl⟩:=hrel;by_cases aB:k<N.regs.length
  ·obtain⟨r,ak⟩:=bS aB;obtain⟨bG,ck,kr,gK,cx⟩:=gg.r.el ak;have c0:=cx 0 _ rfl;have qw:=(P.reg r (bn ak)).1;have bW:=K (af4 ak);have fG:=mU k;generalize h4 (N.regs.take k)=hb at *;have fa:(k:Int)<(N.regs.length:Int):=by omega
   have bM:=bF ((k:Int)+1);obtain⟨wd,dg⟩:∃m:Nat,r.width=(m:Int):=⟨r.width.toNat,by omega⟩
   rw[Nat.add_zero,dg] at c0;rw[dg] at qw bW;have lg:=bF ((hb:Int)+(wd:Int));rw[kr] at eX;clear ak cx dg;go_wp2;go_roundw
   case measure=>simp[intOf];omega
   exact⟨k+1,by omega,by simp,by rw[bW.out];simp,trivial⟩
  ·have cQ:¬((k:Int)<(N.regs.length:Int)):=by omega
   have hB:N.regs.take k=N.regs:=fQ (by omega);have Nd:=mU k;rw[hB] at Nd ⊢;rw[<-Mu.out] at Nd ⊢;clear hB;go_wp2_with fail
   go_loopw [3,5] (fun o5 aq B=>∃(k:Nat),k<=N.mems.length∧aq = .int .i64 k∧o5 = .int .i64 ((Dc+ha (N.mems.take k):Nat):Int)∧Hid (∃q,B=I.drewN q)) (fun _ aq _=>N.mems.length - (intOf aq).toNat)
   case atStart=>exact⟨0,cE _,rfl,rfl,0,rfl⟩
   case round =>
    obtain⟨k2,bz,rfl,rfl,ui⟩:=hrel;have ta:Hid (∀p,wr.cell? p=I.cell? p):=fun p=>by obtain⟨q,aJ⟩:=ui.out;rw[aJ];rfl
    have Gj:=(ta ⟨ab,3,none⟩).trans fH;by_cases oZ:k2<N.mems.length
    ·obtain⟨mm,ae⟩:=bS oZ;obtain⟨nv,im,kr,o0,lG⟩:=gg.m.el ae;have lW:=P.mem mm (bn ae);have bW:=K (Xj ae);have fG:=C0 k2;generalize ha (N.mems.take k2)=hb at *;obtain⟨jf,tr⟩:∃m:Nat,mm.width=(m:Int):=⟨mm.width.toNat,by omega⟩
     obtain⟨kL,tq⟩:∃m:Nat,mm.words=(m:Int):=⟨mm.words.toNat,by omega⟩
     have c0:wr.cell? ⟨nv,im+k2*2,none⟩=some (.int .i64 (jf:Int)):=(ta _).trans (by have:=lG 0 (.int .i64 mm.width) rfl;rw[tr] at this;simpa using this);have c1:wr.cell? ⟨nv,im+k2*2+1,none⟩=some (.int .i64 (kL:Int)):=(ta _).trans (by have:=lG 1 (.int .i64 mm.words) rfl;rw[tq] at this;exact this);rw[kr] at Gj;rw[tr,tq] at lW bW;have Ik:jf*kL<=8192:=Nat.mul_le_mul (show jf<=32 by omega) (show kL<=256 by omega);obtain⟨ny,pu⟩:=cf (jf*kL);have l8:(jf:Int)*(kL:Int)=(ny:Int):=by rw[pu];simp
     rw[<-pu] at Ik;simp only[Int.toNat_natCast] at bW;rw[<-pu] at bW;have Fk:IntKind.i64.wrap ((jf:Int)*(kL:Int))=(ny:Int):=by rw[l8];exact mj _ (by omega) (by omega)
     obtain⟨rs,k0⟩:=cf (Dc+hb);have Dk:=bF (ny:Int);have HN:=bF ((rs:Int)+(ny:Int));have BF:Hid (Dc+ha (N.mems.take (k2+1))=rs+ny):=by show _=_;rw[bW.out,k0];omega
     rw[<-k0];have KH:(k2:Int)<(N.mems.length:Int):=by omega
     have bM:=bF ((k2:Int)+1);clear ae lG pu k0 tr tq lW l8 fH;go_wp2_with fail
     go_quiet (fail)
     go_wp2;go_roundw
     case measure=>simp[intOf];omega
     exact⟨k2+1,by omega,by simp,by rw[BF.out];simp,by obtain⟨q,aJ⟩:=ui.out;exact⟨_,by rw[aJ,World.drewN_drewN]⟩⟩
    ·have As:¬((k2:Int)<(N.mems.length:Int)):=by omega
     have hB:N.mems.take k2=N.mems:=fQ (by omega);have km:Hid (Dc+ha (N.mems.take k2)=h4 N.regs+ha N.mems):=by show _=_;rw[hB,Mu.out]
     rw[km.out];have nX:Hid (V w wr):=by obtain⟨q,aJ⟩:=ui.out;rw[aJ];exact Below.drewN nY q
     clear hB;go_wp2;go_ret
     exact⟨rfl,nX⟩
theorem arE (Y:Nat) (w:World) (S:dp) (N:aR) (h:eM Y w S N) (aM:Y<=w.heap.size) (aG:er N=true) (aW:N.outs.length<=1048576) :
  Calls Tryz.prog 10 #[.agg (S.cells N)] w fun e B=>e = .returned (.int .i64 ((ki N N.outs:Nat):Int))∧V w B:=by
 have P:=K (q1 aG);have hN:Hid (∀k,ki N (N.outs.take k)<=33554432):=atx aG aW;have oQ:Hid (∀d,d∈N.nodes->1<=d.width∧d.width<=32):=fun d U=>Cp aG U
 unfold dp.cells;go_enter Tryz.func10,Tryz.ntmps10
 go_upto_region 1 with fail
 generalize av:World.alloc w _=I;obtain⟨ab,cR⟩:=cf (w.heap.size);have nY:Hid (V w I):=by rw[<-av];exact(ax _ _).alloc (aL _) _
 have gO:Hid (th I ab S N):=by rw[<-av,cR];exact K4 w S N
 rw[<-cR];have gg:Hid (eM Y I S N):=h.to (nY.mono aM);clear av cR h;have cy:I.cell? ⟨ab,1,none⟩=some (.slice S.a1 N.nodes.length S.c1):=gO 1 _ rfl;have g5:I.cell? ⟨ab,5,none⟩=some (.slice S.a5 N.outs.length S.c5):=gO 5 _ rfl;go_wp2_with fail
 go_loopw [3,4] (fun o5 aq B=>∃(k:Nat),k<=N.outs.length∧aq = .int .i64 k∧o5 = .int .i64 ((ki N (N.outs.take k):Nat):Int)∧Hid (∃q,B=I.drewN q)) (fun _ aq _=>N.outs.length - (intOf aq).toNat)
 case atStart=>exact⟨0,cE _,rfl,rfl,0,rfl⟩
 case round =>
  obtain⟨k,X,rfl,rfl,ui⟩:=hrel;have ta:Hid (∀p,wr.cell? p=I.cell? p):=fun p=>by obtain⟨q,aJ⟩:=ui.out;rw[aJ];rfl
  have D4:=(ta ⟨ab,1,none⟩).trans cy;have Gk:=(ta ⟨ab,5,none⟩).trans g5;by_cases aB:k<N.outs.length
  ·obtain⟨a,ad⟩:=bS aB;obtain⟨uK,o3,Cb,qt,nP⟩:=gg.o.intR ad;have Ap:=P.out.out a (bn ad);have bW:=K (Xz (N:=N) ad);have fG:=hN k;generalize ki N (N.outs.take k)=hb at *;obtain⟨fX,Dv⟩:∃m:Nat,a=(m:Int):=⟨a.toNat,by omega⟩
   subst Dv;obtain⟨d,U⟩:=bS (show fX<N.nodes.length by omega);obtain⟨gA,uo,kr,tn,Aq⟩:=gg.n.el U;have KA:=oQ d (bn U);obtain⟨wd,dg⟩:∃m:Nat,d.width=(m:Int):=⟨d.width.toNat,by omega⟩
   have kA:(f2 N (fX:Int)).toNat=wd:=by unfold f2;rw[vg,U];simp[dg]
   rw[kA] at bW;have c0:wr.cell? ⟨uK,o3+k,none⟩=some (.int .i64 (fX:Int)):=(ta _).trans nP;have c1:wr.cell? ⟨gA,uo+fX*4+1,none⟩=some (.int .i64 (wd:Int)):=(ta _).trans (by have:=Aq 1 (.int .i64 d.width) rfl;rw[dg] at this;exact this);rw[dg] at KA;have fa:(k:Int)<(N.outs.length:Int):=by omega
   have anT:(fX:Int)<(N.nodes.length:Int):=Ap.2;have bM:=bF ((k:Int)+1);have lg:=bF ((hb:Int)+(wd:Int));rw[kr] at D4;rw[Cb] at Gk;clear ad nP U Aq dg cy g5 kA Ap;go_wp2_with fail
   go_quiet (fail)
   go_wp2;go_roundw
   case measure=>simp[intOf];omega
   exact⟨k+1,by omega,by simp,by rw[bW.out];simp,by obtain⟨q,aJ⟩:=ui.out;exact⟨_,by rw[aJ,World.drewN_drewN]⟩⟩
  ·have cQ:¬((k:Int)<(N.outs.length:Int)):=by omega
   have hB:N.outs.take k=N.outs:=fQ (by omega);rw[hB];have nX:Hid (V w wr):=by obtain⟨q,aJ⟩:=ui.out;rw[aJ];exact Below.drewN nY q
   clear hB cy;go_wp2;go_ret
   exact⟨rfl,nX⟩
def pD (N:aR) (l:List Int):List Int:=l.map (f2 N)
def Ci (x:Int):Value:= .int .i64 x
theorem awp (Y:Nat) (w:World) (S:dp) (N:aR) (h:eM Y w S N) (aM:Y<=w.heap.size) (aG:er N=true) (aW:N.outs.length<=1048576) :
  Calls Tryz.prog 16 #[.agg (S.cells N)] w fun e B=>∃v,e = .returned v∧B.ownsRow w.heap.size 3 1 v N.outs.length ((pD N N.outs).map Ci)∧V w B:=by
 have P:=K (q1 aG);have oQ:Hid (∀d,d∈N.nodes->1<=d.width∧d.width<=32):=fun d U=>Cp aG U
 obtain⟨apQ,ek,i1,jU,f0⟩:=sW
 change Hid _ at ek i1 jU f0
 unfold dp.cells;go_enter Tryz.func16,Tryz.ntmps16
 go_upto_region 1 with fail
 generalize av:World.alloc w _=I;obtain⟨ab,cR⟩:=cf (w.heap.size);have nY:Hid (V w I):=by rw[<-av];exact(ax _ _).alloc (aL _) _
 have gO:Hid (th I ab S N):=by rw[<-av,cR];exact K4 w S N
 have pt:ab<I.heap.size:=by rw[<-av,cR];simp
 rw[<-cR];have gg:Hid (eM Y I S N):=h.to (nY.mono aM);have gE:Y<=I.heap.size:=bL aM nY.size;clear av cR h;have cy:I.cell? ⟨ab,1,none⟩=some (.slice S.a1 N.nodes.length S.c1):=gO 1 _ rfl;have g5:I.cell? ⟨ab,5,none⟩=some (.slice S.a5 N.outs.length S.c5):=gO 5 _ rfl;go_wp2_with fail
 go_loopw [3,4] (fun v aq B=>∃(k:Nat),k<=N.outs.length∧aq = .int .i64 k∧Hid (B.ownsRow I.heap.size 3 1 v k ((pD N (N.outs.take k)).map Ci))∧Hid (V I B)) (fun _ aq _=>N.outs.length - (intOf aq).toNat)
 case atStart=>exact⟨0,cE _,rfl,k8 _ _ _ _,ax _ _⟩
 case round =>
  obtain⟨k,X,rfl,a6,au⟩:=hrel;have Gk:=(au.cell (p:=⟨ab,5,none⟩) pt).trans g5;by_cases aB:k<N.outs.length
  ·obtain⟨a,ad⟩:=bS aB;obtain⟨uK,o3,Cb,qt,nP⟩:=gg.o.intR ad;have Ap:=P.out.out a (bn ad);obtain⟨fX,Dv⟩:∃m:Nat,a=(m:Int):=⟨a.toNat,by omega⟩
   subst Dv;obtain⟨d,U⟩:=bS (show fX<N.nodes.length by omega);obtain⟨gA,uo,kr,tn,Aq⟩:=gg.n.el U;have KA:=oQ d (bn U);obtain⟨wd,dg⟩:∃m:Nat,d.width=(m:Int):=⟨d.width.toNat,by omega⟩
   have bW:Hid ((pD N (N.outs.take (k+1))).map Ci=(pD N (N.outs.take k)).map Ci++[.int .i64 (wd:Int)]):=by
    show _=_;unfold pD;rw[gM _ k _ ad,g1,g1,<-dg];simp only[List.map_cons,List.map_nil,Ci];unfold f2;rw[vg,U]
    rfl
   rw[Cb] at g5 Gk;rw[kr] at cy;have rn:Hid (∀B,V I B->B.cell? ⟨ab,1,none⟩=some (.slice (some ⟨gA,uo,none⟩) N.nodes.length S.c1)∧B.cell? ⟨ab,5,none⟩=some (.slice (some ⟨uK,o3,none⟩) N.outs.length S.c5)∧B.cell? ⟨uK,o3+k,none⟩=some (.int .i64 (fX:Int))∧B.cell? ⟨gA,uo+fX*4+1,none⟩=some (.int .i64 (wd:Int))):=fun B D =>
    ⟨(D.cell (p:=⟨ab,1,none⟩) pt).trans cy,(D.cell (p:=⟨ab,5,none⟩) pt).trans g5,(D.cell (p:=⟨uK,o3+k,none⟩) (bk qt gE)).trans nP,(D.cell (p:=⟨gA,uo+fX*4+1,none⟩) (bk tn gE)).trans (by have:=Aq 1 (.int .i64 d.width) rfl;rw[dg] at this;exact this)⟩
   have fa:(k:Int)<(N.outs.length:Int):=by omega
   have anT:(fX:Int)<(N.nodes.length:Int):=Ap.2;have bM:=bF ((k:Int)+1);have hx:=rn _ au;have bD:Hid (V I wr.drew):=au.drew;have lA:Hid (wr.drew.ownsRow I.heap.size 3 1 u3 k ((pD N (N.outs.take k)).map Ci)):=a6.out;have qi:=K (lA.alloc (.cells #[.int .i64 (wd:Int)] 3));have cg:Hid (V I (wr.drew.alloc (.cells #[.int .i64 (wd:Int)] 3))):=bD.alloc bD.size _;have cn:k+1<=maxLen:=by simp only[maxLen];omega
   have cq:(k+1)*8<=140737488355328:=by omega
   have cJ:Hid (I.heap.size<=(wr.drew.alloc (.cells #[.int .i64 (wd:Int)] 3)).heap.size):=cg.size;clear ad nP U Aq dg cy g5 Ap Cb kr;go_wp2_with fail
   refine mR ?_;refine ih (S:=(fun B=>B.cell? ⟨ab,1,none⟩=some (.slice (some ⟨gA,uo,none⟩) N.nodes.length S.c1)∧B.cell? ⟨ab,5,none⟩=some (.slice (some ⟨uK,o3,none⟩) N.outs.length S.c5)∧B.cell? ⟨uK,o3+k,none⟩=some (.int .i64 (fX:Int))∧B.cell? ⟨gA,uo+fX*4+1,none⟩=some (.int .i64 (wd:Int)))) (by kernel_rfl) (by first | assumption | exact rn _ bD | exact rn _ cg | exact rn _ cV) (fun ii=>?_);refine R 0 ?_;refine R 1 ?_;refine R 2 ?_;refine R 3 ?_;refine R 4 ?_;refine R 5 ?_;refine R 6 ?_;refine R 7 ?_;refine R 8 ?_;refine R 9 ?_;refine R 10 ?_;refine rd 11 fun aj W=>?_
   (try simp only[bf,bg,bh]);go_simp;refine aQ W (by first | assumption | exact rn _ bD | exact rn _ cg | exact rn _ cV) fun Kn=>?_
   clear W aj;refine rd 12 fun aj W=>?_
   refine step_append_lies _ rfl (.tmp 12) (.tmp 23) 22 rfl I.heap.size 3 apQ _ 1 8 Tryz.underlying22 ek i1 jU f0 rfl (by decide) u3 k _ rfl qi ⟨wr.drew.heap.size,0,none⟩ 1 1 [.int .i64 (wd:Int)] rfl rfl (i5 (h8 _ _)) (by simp[Value.oneCell']) (by decide) cn cq cJ _ rfl ?_;intro g cap al bc br aO cj;have cV:Hid (V I al):=us bD lA br
   change Hid _ at bc
   clear br aO cj;refine aQ W (by first | assumption | exact rn _ bD | exact rn _ cg | exact rn _ cV) fun Vc=>?_
   clear W aj;refine R 13 ?_;refine gn (by kernel_rfl) ?_ _;refine j8 ?_;have hM:Hid (al.ownsRow I.heap.size 3 1 (.slice (some ⟨g,0,none⟩) (k+1) cap) (k+1) ((pD N (N.outs.take (k+1))).map Ci)):=by
    show World.ownsRow _ _ _ _ _ _ _;rw[bW.out];exact bc
   clear lA qi bc bD cg a6 au bW;go_wp2;go_roundw
   case measure=>simp[intOf];omega
   exact⟨k+1,by omega,by simp,hM.out,cV⟩
  ·have cQ:¬((k:Int)<(N.outs.length:Int)):=by omega
   have hM:Hid (wr.ownsRow I.heap.size 3 1 u3 N.outs.length ((pD N N.outs).map Ci)):=by
    have:=a6.out
    rw[fQ (by omega),show k=N.outs.length by omega] at this;exact this
   clear a6 cy;go_wp2;go_ret
   exact⟨_,rfl,xN hM nY.size,nY.trans (au.mono nY.size)⟩
def uJ (N:aR) (l:List eO):Nat:=(l.map (m5 N)).sum
def wV (N:aR) (l:List jz):Nat:=(l.map (EJ N)).sum
def hH (l:List Int):Nat:=(l.map Int.toNat).sum
def Gc (N:aR):Nat:=40*(uJ N N.nodes+wV N N.wrs)+hH N.ins
theorem afj {N:aR} {l:List eO} {r:eO} (h:l[k]?=some r):uJ N (l.take (k+1))=uJ N (l.take k)+m5 N r:=by unfold uJ;rw[gM l k r h,g1,List.sum_append];simp
theorem awN {N:aR} {l:List jz} {r:jz} (h:l[k]?=some r):wV N (l.take (k+1))=wV N (l.take k)+EJ N r:=by unfold wV;rw[gM l k r h,g1,List.sum_append];simp
theorem aeH {l:List Int} {r:Int} (h:l[k]?=some r):hH (l.take (k+1))=hH (l.take k)+r.toNat:=by unfold hH;rw[gM l k r h,g1,List.sum_append];simp
theorem akI {N:aR} {l:List Int} {r:Int} (h:l[k]?=some r):ki N (l.take (k+1))=ki N (l.take k)+(f2 N r).toNat:=Xz h
theorem awn {N:aR} (aG:er N=true) (a:Int):(f2 N a).toNat<=32:=by
 unfold f2;cases e:N.nodes[a.toNat]? with
 | none=>simp
 | some d=>have:=Cp aG (bn e);simp;omega
theorem afa {N:aR} (aG:er N=true) (k:Nat):((N.mems[k]?.map hf.width).getD 0).toNat*((N.mems[k]?.map hf.words).getD 0).toNat<=8192:=by
 cases e:N.mems[k]? with
 | none=>simp
 | some y =>
  have:=(q1 aG).mem y (bn e)
  simp only[Option.map_some,Option.getD_some];exact Nat.mul_le_mul (show y.width.toNat<=32 by omega) (show y.words.toNat<=256 by omega)
theorem abE {N:aR} (aG:er N=true) (l:List Int):ki N l<=32*l.length:=CC _ 32 l (fun a _=>awn aG a)
theorem afi {N:aR} (aG:er N=true) {d:eO} (U:d∈N.nodes) (ad:d.args.length<=1048576):m5 N d<=33562624:=by
 have F:=Cp aG U;unfold m5;split
 ·have:=afa aG d.num.toNat
  omega
 ·unfold nx;split
  ·have:d.width.toNat*d.width.toNat<=32*32:=Nat.mul_le_mul (by omega) (by omega)
   omega
  ·split
   ·omega
   ·have:=abE aG d.args
    unfold ki at this;omega
theorem arx {N:aR} (aG:er N=true) (F:N.nodes.length<=1048576) (ad:∀d,d∈N.nodes->d.args.length<=1048576) (k:Nat):uJ N (N.nodes.take k)<=35192962023424:=by
 have:=CC (m5 N) 33562624 (N.nodes.take k) (fun d U=>afi aG (su U) (ad d (su U)))
 rw[jx] at this;unfold uJ;omega
theorem awM {N:aR} (aG:er N=true) (F:N.wrs.length<=1048576) (k:Nat):wV N (N.wrs.take k)<=8589934592:=by
 have:=CC (EJ N) 8192 (N.wrs.take k) (fun z _=>by unfold EJ qy;exact afa aG _)
 rw[jx] at this;unfold wV;omega
theorem KW {N:aR} (aG:er N=true) {x:Int} (J:x∈N.ins):1<=x∧x<=32:=by
 unfold er at aG;simp only[Bool.and_eq_true] at aG
 have:=k9.1 aG.1.1.1.1.1.1 x J
 simpa[cL] using this
theorem RK {N:aR} (aG:er N=true) (F:N.ins.length<=1048576) (k:Nat):hH (N.ins.take k)<=33554432:=by
 have:=CC Int.toNat 32 (N.ins.take k) (fun x J=>by have:=KW aG (su J);omega)
 rw[jx] at this;unfold hH;omega
theorem asa {N:aR} (aG:er N=true) {i:Nat} {d:eO} (U:N.nodes[i]?=some d):pz N i d=true:=by
 have qW:=(cr.1 U).1;unfold er at aG;simp only[Bool.and_eq_true] at aG
 have:=k9.1 aG.1.1.1.2 i (om.2 qW)
 unfold qA at this;rwa [U] at this
theorem arG (Y:Nat) (w:World) (S:dp) (N:aR) (h:eM Y w S N) (aM:Y<=w.heap.size) (aG:er N=true) (F:N.nodes.length<=1048576) (O:N.wrs.length<=1048576) (aW:N.ins.length<=1048576) (cw:∀d,d∈N.nodes->d.args.length<=1048576) :
  Calls Tryz.prog 11 #[.agg (S.cells N)] w fun e B=>e = .returned (.int .i64 ((Gc N:Nat):Int))∧V w B:=by
 have P:=K (q1 aG);have Z4:Hid (∀k,uJ N (N.nodes.take k)<=35192962023424):=arx aG F cw;have MA:Hid (∀k,wV N (N.wrs.take k)<=8589934592):=awM aG O;have Pp:Hid (∀k,hH (N.ins.take k)<=33554432):=RK aG aW;unfold dp.cells;go_enter Tryz.func11,Tryz.ntmps11
 go_upto_region 1 with fail
 generalize av:World.alloc w _=I;obtain⟨ab,cR⟩:=cf (w.heap.size);have nY:Hid (V w I):=by rw[<-av];exact(ax _ _).alloc (aL _) _
 have gO:Hid (th I ab S N):=by rw[<-av,cR];exact K4 w S N
 have pt:ab<I.heap.size:=by rw[<-av,cR];simp
 rw[<-cR];have gg:Hid (eM Y I S N):=h.to (nY.mono aM);have gE:Y<=I.heap.size:=bL aM nY.size
 change Hid _ at aG cw
 clear av cR h;have iY:Hid (∀B,V I B->∀(j:Nat) (v:Value),(S.cells N)[j]?=some v->B.cell? ⟨ab,j,none⟩=some v):=fun B D j v L=>(D.cell (p:=⟨ab,j,none⟩) pt).trans (gO j v L)
 obtain⟨tg,vn⟩:∃x,Hid (x=uJ N N.nodes):=⟨_,rfl⟩
 obtain⟨abs,nf⟩:∃x,Hid (x=wV N N.wrs):=⟨_,rfl⟩
 have ayn:tg<=35192962023424:=by have:=Z4 N.nodes.length;rw[List.take_length] at this;rw[vn.out];exact this
 have ayq:abs<=8589934592:=by have:=MA N.wrs.length;rw[List.take_length] at this;rw[nf.out];exact this
 go_wp2_with fail
 go_loopw [3,4] (fun o5 aq B=>∃(k:Nat),k<=N.nodes.length∧aq = .int .i64 k∧o5 = .int .i64 ((uJ N (N.nodes.take k):Nat):Int)∧Hid (V I B)) (fun _ aq _=>N.nodes.length - (intOf aq).toNat)
 case atStart=>exact⟨0,cE _,rfl,rfl,ax _ _⟩
 case round =>
  obtain⟨k,X,rfl,rfl,au⟩:=hrel;have cy:wr.cell? ⟨ab,1,none⟩=some (.slice S.a1 N.nodes.length S.c1):=iY wr au 1 _ rfl;by_cases aB:k<N.nodes.length
  ·obtain⟨d,U⟩:=bS aB;obtain⟨gA,uo,kr,tn,Aq⟩:=gg.n.el U;have KA:=Cp aG (bn U);have QV:gA<I.heap.size:=bk tn gE;have n0:wr.cell? ⟨gA,uo+k*4,none⟩=some (.int .i64 d.kind):=(au.cell (p:=⟨gA,uo+k*4,none⟩) QV).trans (Aq 0 _ rfl);have n1:wr.cell? ⟨gA,uo+k*4+1,none⟩=some (.int .i64 d.width):=(au.cell (p:=⟨gA,uo+k*4+1,none⟩) QV).trans (Aq 1 _ rfl);have mv:wr.cell? ⟨gA,uo+k*4+2,none⟩=some (.int .u64 d.num):=(au.cell (p:=⟨gA,uo+k*4+2,none⟩) QV).trans (Aq 2 _ rfl);have og:wr.cell? ⟨gA,uo+k*4+3,none⟩=some (.slice d.aa d.args.length d.ac):=(au.cell (p:=⟨gA,uo+k*4+3,none⟩) QV).trans (Aq 3 _ rfl);have fG:=Z4 k;have gY:=afi aG (bn U) (cw d (bn U));have bW:=K (afj (N:=N) U);generalize uJ N (N.nodes.take k)=hb at *;obtain⟨kC,H1,QX⟩:=ty (asa aG U);obtain⟨jT,yF,V6,-⟩:=gg.na d (bn U);obtain⟨wd,dg⟩:∃m:Nat,d.width=(m:Int):=⟨d.width.toNat,by omega⟩
   obtain⟨nm,zk⟩:∃m:Nat,d.num=(m:Int):=⟨d.num.toNat,by omega⟩
   have fa:(k:Int)<(N.nodes.length:Int):=by omega
   have bM:=bF ((k:Int)+1);rw[kr] at cy;have ri:=K jT;have kB:=cw d (bn U)
   change Hid _ at H1 QX
   clear kr Aq jT kC U
   go_upto_block 2 with fail
   generalize hy:World.alloc wr _=aC;have fE:Hid (V I aC):=by rw[<-hy];exact au.alloc au.size _
   obtain⟨CJ,zq⟩:=cf (wr.heap.size);have bX:aC.cell? ⟨CJ,0,none⟩=some (.int .i64 d.kind):=by rw[<-hy,ja zq];rfl
   have dC:aC.cell? ⟨CJ,1,none⟩=some (.int .i64 (wd:Int)):=by rw[<-hy,ja zq,<-dg];rfl
   have en:aC.cell? ⟨CJ,2,none⟩=some (.int .u64 (nm:Int)):=by rw[<-hy,ja zq,<-zk];rfl
   have e1:aC.cell? ⟨CJ,3,none⟩=some (.slice d.aa d.args.length d.ac):=by rw[<-hy,ja zq];rfl
   have zr:CJ<aC.heap.size:=by rw[<-hy,zq];simp
   rw[<-zq];rw[dg] at KA;clear hy zq n0 n1 mv og cy au yF V6;by_cases F7:d.kind=17
   ·have aee:m5 N d=wd*wd:=by unfold m5 nx;rw[if_neg (by omega),if_pos F7,dg];rfl
    have aoY:wd*wd<=1024:=Nat.mul_le_mul (show wd<=32 by omega) (show wd<=32 by omega);rw[aee] at bW;clear aee gY dg zk;rw[F7] at bX;obtain⟨ny,pu⟩:=cf (wd*wd);have l8:(wd:Int)*(wd:Int)=(ny:Int):=by rw[pu];simp
    rw[<-pu] at aoY bW;have Fk:IntKind.i64.wrap ((wd:Int)*(wd:Int))=(ny:Int):=by rw[l8];exact mj _ (by omega) (by omega)
    have Dk:=bF (ny:Int);have HN:=bF ((hb:Int)+(ny:Int));clear pu l8;go_wp2;go_roundw
    case measure=>simp[intOf];omega
    exact⟨k+1,by omega,by simp,by rw[bW.out];simp,fE⟩
   ·by_cases AF:d.kind=18∨d.kind=19
    ·have aef:m5 N d=6*wd:=by unfold m5 nx;rw[if_neg (by omega),if_neg F7,if_pos AF,dg];rfl
     rw[aef] at bW;clear aef gY dg zk;have Fk:=bF (6*(wd:Int));have HN:=bF ((hb:Int)+6*(wd:Int));rcases AF with AF | AF
     ·rw[AF] at bX F7;go_wp2;go_roundw
      case measure=>simp[intOf];omega
      exact⟨k+1,by omega,by simp,by rw[bW.out];simp,fE⟩
     ·rw[AF] at bX F7;go_wp2;go_roundw
      case measure=>simp[intOf];omega
      exact⟨k+1,by omega,by simp,by rw[bW.out];simp,fE⟩
    ·have ap8:¬d.kind=18:=fun e=>AF (.inl e)
     have ap9:¬d.kind=19:=fun e=>AF (.inr e)
     by_cases k32:d.kind=32
     ·have aoM:nm<N.mems.length:=by
       have:=QX.out
       unfold lj at this;rw[if_neg (by omega),if_neg (by omega),if_pos k32] at this
       have:=(jN this).1
       omega
      obtain⟨mm,ae⟩:=bS aoM;obtain⟨nv,im,NI,o0,lG⟩:=gg.m.el ae;have lW:=P.mem mm (bn ae);obtain⟨jf,tr⟩:∃m:Nat,mm.width=(m:Int):=⟨mm.width.toNat,by omega⟩
      obtain⟨kL,tq⟩:∃m:Nat,mm.words=(m:Int):=⟨mm.words.toNat,by omega⟩
      have FR:nv<I.heap.size:=bk o0 gE;have c0:aC.cell? ⟨nv,im+nm*2,none⟩=some (.int .i64 (jf:Int)):=(fE.cell (p:=⟨nv,im+nm*2,none⟩) FR).trans (by have:=lG 0 (.int .i64 mm.width) rfl;rw[tr] at this;simpa using this);have c1:aC.cell? ⟨nv,im+nm*2+1,none⟩=some (.int .i64 (kL:Int)):=(fE.cell (p:=⟨nv,im+nm*2+1,none⟩) FR).trans (by have:=lG 1 (.int .i64 mm.words) rfl;rw[tq] at this;exact this);have fH:aC.cell? ⟨ab,3,none⟩=some (.slice S.a3 N.mems.length S.c3):=iY aC fE 3 _ rfl;rw[NI] at fH;have aeg:m5 N d=jf*kL:=by unfold m5;rw[if_pos k32,zk,vg,ae];simp[tr,tq]
      rw[aeg] at bW;rw[tr,tq] at lW;have Ik:jf*kL<=8192:=Nat.mul_le_mul (show jf<=32 by omega) (show kL<=256 by omega);obtain⟨ny,pu⟩:=cf (jf*kL);have l8:(jf:Int)*(kL:Int)=(ny:Int):=by rw[pu];simp
      rw[<-pu] at Ik bW;have Fk:IntKind.i64.wrap ((jf:Int)*(kL:Int))=(ny:Int):=by rw[l8];exact mj _ (by omega) (by omega)
      have Dk:=bF (ny:Int);have HN:=bF ((hb:Int)+(ny:Int));have azq:(nm:Int)<(N.mems.length:Int):=by omega
      rw[k32] at bX;clear ae lG NI pu l8 aeg gY dg zk tr tq lW F7 AF ap8 ap9 QX;go_wp2_with fail
      go_quiet (fail)
      go_wp2;go_roundw
      case measure=>simp[intOf];omega
      exact⟨k+1,by omega,by simp,by rw[bW.out];simp,Below.drewN fE _⟩
     ·have aeh:m5 N d=wd+ki N d.args:=by unfold m5 nx ki;rw[if_neg k32,if_neg F7,if_neg AF,dg];rfl
      rw[aeh] at bW gY;obtain⟨Ly,Wy⟩:=cf (hb+wd);have ain:Hid (∀j,ki N (d.args.take j)<=33554432):=fun j=>by
       have:=abE aG (d.args.take j)
       rw[jx] at this;omega
      have HN:IntKind.i64.wrap ((hb:Int)+(wd:Int))=(Ly:Int):=by rw[Wy];exact(mj _ (by omega) (by omega)).trans (by simp)
      have azG:Ly<=35192962023456:=by omega
      have E7:Hid (∀B,V aC B->B.cell? ⟨CJ,3,none⟩=some (.slice d.aa d.args.length d.ac)∧B.cell? ⟨ab,1,none⟩=some (.slice S.a1 N.nodes.length S.c1)):=fun B D=>⟨(D.cell (p:=⟨CJ,3,none⟩) zr).trans e1,iY B (fE.trans (D.mono fE.size)) 1 _ rfl⟩
      have rM:=F7
      change Hid _ at Wy
      clear aeh dg zk AF QX;go_wp2_with fail
      go_loopw [3,6] (fun o5 aq B=>∃(j:Nat),j<=d.args.length∧aq = .int .i64 j∧o5 = .int .i64 ((Ly+ki N (d.args.take j):Nat):Int)∧Hid (∃q,B=aC.drewN q)) (fun _ aq _=>d.args.length - (intOf aq).toNat)
      case atStart=>exact⟨0,cE _,rfl,rfl,0,rfl⟩
      case round =>
       obtain⟨j,aT,rfl,rfl,ui⟩:=hrel;clear bX dC en e1;have pc:Hid (V aC wr):=by obtain⟨q,aJ⟩:=ui.out;rw[aJ];exact Below.drewN (ax _ _) q
       obtain⟨e1,cy⟩:=E7 wr pc;by_cases oZ:j<d.args.length
       ·obtain⟨fX,ad⟩:=bS oZ;obtain⟨bJ,cP,QQ,oa,pn⟩:=ri.intR ad;have Ap:=H1 fX (bn ad);obtain⟨Df,anR⟩:∃m:Nat,fX=(m:Int):=⟨fX.toNat,by omega⟩
        subst anR;obtain⟨y,aF⟩:=bS (show Df<N.nodes.length by omega);obtain⟨aic,aid,aex,apJ,N8⟩:=gg.n.el aF;have vC:=Cp aG (bn aF);obtain⟨SQ,RC⟩:∃m:Nat,y.width=(m:Int):=⟨y.width.toNat,by omega⟩
        have Tw:=K (akI (N:=N) ad);have kA:(f2 N (Df:Int)).toNat=SQ:=by unfold f2;rw[vg,aF];simp[RC]
        rw[kA] at Tw;have ay9:=ain j;generalize ki N (d.args.take j)=as5 at *;have sy:Hid (V I wr):=fE.trans (pc.mono fE.size);have c0:wr.cell? ⟨bJ,cP+j,none⟩=some (.int .i64 (Df:Int)):=(sy.cell (p:=⟨bJ,cP+j,none⟩) (bk oa gE)).trans pn;have c1:wr.cell? ⟨aic,aid+Df*4+1,none⟩=some (.int .i64 (SQ:Int)):=(sy.cell (p:=⟨aic,aid+Df*4+1,none⟩) (bk apJ gE)).trans (by have:=N8 1 (.int .i64 y.width) rfl;rw[RC] at this;exact this);rw[RC] at vC;obtain⟨Jf,Wv⟩:=cf (Ly+as5);have PC:Hid (Ly+ki N (d.args.take (j+1))=Jf+SQ):=by show _=_;rw[Tw.out,Wv];omega
        rw[<-Wv];have azC:Jf<=35193162023456:=by omega
        have KH:(j:Int)<(d.args.length:Int):=by omega
        have ayt:(Df:Int)<(N.nodes.length:Int):=by omega
        have axK:=bF ((j:Int)+1);have Dk:=bF ((Jf:Int)+(SQ:Int));rw[aex] at cy;rw[QQ] at e1;clear ad pn aF N8 RC kA Tw Wv aex QQ Ap;go_wp2_with fail
        go_quiet (fail)
        go_wp2;go_roundw
        case measure=>simp[intOf];omega
        exact⟨j+1,by omega,by simp,by rw[PC.out];simp,by obtain⟨q,aJ⟩:=ui.out;exact⟨_,by rw[aJ,World.drewN_drewN]⟩⟩
       ·have As:¬((j:Int)<(d.args.length:Int)):=by omega
        have ado:d.args.take j=d.args:=fQ (by omega);have JX:Hid (Ly+ki N (d.args.take j)=uJ N (N.nodes.take (k+1))):=by show _=_;rw[ado,bW.out,Wy.out];omega
        rw[JX.out];have nX:Hid (V I wr):=fE.trans (pc.mono fE.size);clear ado ui pc;obtain⟨aAo,aaI⟩:∃x,Hid (x=uJ N (N.nodes.take (k+1))):=⟨_,rfl⟩
        rw[<-aaI.out];go_wp2;go_roundw
        case measure=>simp[intOf];omega
        exact⟨k+1,by omega,by simp,by rw[aaI.out],nX⟩
  ·have cQ:¬((k:Int)<(N.nodes.length:Int)):=by omega
   have hB:N.nodes.take k=N.nodes:=fQ (by omega);rw[hB,<-vn.out];clear hB aB;go_wp2_with fail
   go_loopw [3,7] (fun o5 aq B=>∃(lH:Nat),lH<=N.wrs.length∧aq = .int .i64 lH∧o5 = .int .i64 ((tg+wV N (N.wrs.take lH):Nat):Int)∧Hid (V I B)) (fun _ aq _=>N.wrs.length - (intOf aq).toNat)
   case atStart=>exact⟨0,cE _,rfl,rfl,au⟩
   case round =>
    clear cy au;obtain⟨lH,pp,rfl,rfl,au⟩:=hrel;have h3:wr.cell? ⟨ab,4,none⟩=some (.slice S.a4 N.wrs.length S.c4):=iY wr au 4 _ rfl;by_cases oZ:lH<N.wrs.length
    ·obtain⟨z,ao⟩:=bS oZ;obtain⟨oM,ss,aez,i1,xG⟩:=gg.wr.el ao;have apO:=(P.wr z (bn ao)).1;obtain⟨wW,F4⟩:∃m:Nat,z.mem=(m:Int):=⟨z.mem.toNat,by omega⟩
     obtain⟨mm,ae⟩:=bS (show wW<N.mems.length by omega);obtain⟨nv,im,NI,o0,lG⟩:=gg.m.el ae;have lW:=P.mem mm (bn ae);obtain⟨jf,tr⟩:∃m:Nat,mm.width=(m:Int):=⟨mm.width.toNat,by omega⟩
     obtain⟨kL,tq⟩:∃m:Nat,mm.words=(m:Int):=⟨mm.words.toNat,by omega⟩
     have FR:nv<I.heap.size:=bk o0 gE;have apM:oM<I.heap.size:=bk i1 gE;have rn:Hid (∀B,V I B->B.cell? ⟨ab,3,none⟩=some (.slice (some ⟨nv,im,none⟩) N.mems.length S.c3)∧B.cell? ⟨ab,4,none⟩=some (.slice (some ⟨oM,ss,none⟩) N.wrs.length S.c4)∧B.cell? ⟨oM,ss+lH*4,none⟩=some (.int .i64 (wW:Int))∧B.cell? ⟨nv,im+wW*2,none⟩=some (.int .i64 (jf:Int))∧B.cell? ⟨nv,im+wW*2+1,none⟩=some (.int .i64 (kL:Int))):=fun B D =>
      ⟨by rw[<-NI];exact iY B D 3 _ rfl,by rw[<-aez];exact iY B D 4 _ rfl,(D.cell (p:=⟨oM,ss+lH*4,none⟩) apM).trans (by have:=xG 0 (.int .i64 z.mem) rfl;rw[F4] at this;exact this),
       (D.cell (p:=⟨nv,im+wW*2,none⟩) FR).trans (by have:=lG 0 (.int .i64 mm.width) rfl;rw[tr] at this;exact this),(D.cell (p:=⟨nv,im+wW*2+1,none⟩) FR).trans (by have:=lG 1 (.int .i64 mm.words) rfl;rw[tq] at this;exact this)⟩
     have gY:EJ N z=jf*kL:=by unfold EJ qy;rw[F4,vg,ae];simp[tr,tq]
     have bW:=K (awN (N:=N) ao);rw[gY] at bW;have fG:=MA lH;generalize wV N (N.wrs.take lH)=hb at *;rw[tr,tq] at lW;have Ik:jf*kL<=8192:=Nat.mul_le_mul (show jf<=32 by omega) (show kL<=256 by omega);obtain⟨ny,pu⟩:=cf (jf*kL);have l8:(jf:Int)*(kL:Int)=(ny:Int):=by rw[pu];simp
     rw[<-pu] at Ik bW;have Fk:IntKind.i64.wrap ((jf:Int)*(kL:Int))=(ny:Int):=by rw[l8];exact mj _ (by omega) (by omega)
     have Dk:=bF (ny:Int);obtain⟨rs,k0⟩:=cf (tg+hb);have HN:=bF ((rs:Int)+(ny:Int));have BF:Hid (tg+wV N (N.wrs.take (lH+1))=rs+ny):=by show _=_;rw[bW.out,k0];omega
     rw[<-k0];have KH:(lH:Int)<(N.wrs.length:Int):=by omega
     have azQ:(wW:Int)<(N.mems.length:Int):=by omega
     have bM:=bF ((lH:Int)+1);have hx:=rn _ au;have bD:Hid (V I (wr.alloc (.cells #[.int .i64 0,.int .i64 0] 60)).drew):=(au.alloc au.size _).drew;have cg:Hid (V I (wr.alloc (.cells #[.int .i64 (jf:Int),.int .i64 (kL:Int)] 60)).drew):=(au.alloc au.size _).drew;clear ao xG aez F4 ae lG NI tr tq gY pu l8 k0 lW apO bW;go_wp2_with fail
     refine mR ?_;refine ih (S:=(fun B=>B.cell? ⟨ab,3,none⟩=some (.slice (some ⟨nv,im,none⟩) N.mems.length S.c3)∧B.cell? ⟨ab,4,none⟩=some (.slice (some ⟨oM,ss,none⟩) N.wrs.length S.c4)∧B.cell? ⟨oM,ss+lH*4,none⟩=some (.int .i64 (wW:Int))∧B.cell? ⟨nv,im+wW*2,none⟩=some (.int .i64 (jf:Int))∧B.cell? ⟨nv,im+wW*2+1,none⟩=some (.int .i64 (kL:Int)))) (by kernel_rfl) (by first | assumption | exact rn _ bD | exact rn _ cg) (fun ii=>?_);refine R 0 ?_;refine R 1 ?_;refine R 2 ?_;refine R 3 ?_;refine R 4 ?_;refine R 5 ?_;refine R 6 ?_;refine R 7 ?_;refine R 8 ?_;refine R 9 ?_;refine rd 10 fun aj W=>?_
     (try simp only[bf,bg,bh]);go_simp;refine aQ W (by first | assumption | exact rn _ bD | exact rn _ cg) fun Vb=>?_
     clear W aj;refine rd 11 fun aj W=>?_
     (try simp only[bf,bg,bh]);go_simp;refine aQ W (by first | assumption | exact rn _ bD | exact rn _ cg) fun Kn=>?_
     clear W aj;refine gn (by kernel_rfl) ?_ _;refine j8 ?_;obtain⟨aC,hy⟩:=cf ((wr.alloc (.cells #[.int .i64 (jf:Int),.int .i64 (kL:Int)] 60)).drew);obtain⟨CJ,zq⟩:=cf (wr.heap.size);have bX:aC.cell? ⟨CJ,0,none⟩=some (.int .i64 (jf:Int)):=by rw[hy];exact ja zq
     have dC:aC.cell? ⟨CJ,1,none⟩=some (.int .i64 (kL:Int)):=by rw[hy];exact ja zq
     rw[<-hy] at cg ⊢;rw[<-zq];clear ii Vb Kn hy zq hx rn bD au h3;go_wp2;go_roundw
     case measure=>simp[intOf];omega
     exact⟨lH+1,by omega,by simp,by rw[BF.out];simp,cg⟩
    ·have As:¬((lH:Int)<(N.wrs.length:Int)):=by omega
     have hB:N.wrs.take lH=N.wrs:=fQ (by omega);rw[hB,<-nf.out];obtain⟨Lw,Ww⟩:=cf (tg+abs);rw[<-Ww];have azD:Lw<=35201551958016:=by omega
     have axG:=bF (40*(Lw:Int))
     change Hid _ at Ww
     clear hB oZ;go_wp2_with fail
     go_loopw [3,9] (fun o5 aq B=>∃(ev:Nat),ev<=N.ins.length∧aq = .int .i64 ev∧o5 = .int .i64 ((40*Lw+hH (N.ins.take ev):Nat):Int)∧wr=B) (fun _ aq _=>N.ins.length - (intOf aq).toNat)
     case atStart=>exact⟨0,cE _,rfl,by simp[hH],rfl⟩
     case round =>
      obtain⟨ev,eB,rfl,rfl,rfl⟩:=hrel;have gq:wr.cell? ⟨ab,0,none⟩=some (.slice S.a0 N.ins.length S.c0):=iY wr au 0 _ rfl;by_cases Ii:ev<N.ins.length
      ·obtain⟨x,J⟩:=bS Ii;obtain⟨uK,o3,Cb,qt,nP⟩:=gg.i.intR J;have sU:=KW aG (bn J);have bW:=K (aeH J);obtain⟨s2,apI⟩:∃m:Nat,x=(m:Int):=⟨x.toNat,by omega⟩
       subst apI;rw[vg] at bW;have c0:wr.cell? ⟨uK,o3+ev,none⟩=some (.int .i64 (s2:Int)):=(au.cell (p:=⟨uK,o3+ev,none⟩) (bk qt gE)).trans nP;have fG:=Pp ev;generalize hH (N.ins.take ev)=hb at *;obtain⟨rs,k0⟩:=cf (40*Lw+hb);have BF:Hid (40*Lw+hH (N.ins.take (ev+1))=rs+s2):=by show _=_;rw[bW.out,k0];omega
       rw[<-k0];have aox:(ev:Int)<(N.ins.length:Int):=by omega
       have bM:=bF ((ev:Int)+1);have HN:=bF ((rs:Int)+(s2:Int));rw[Cb] at gq;clear J nP Cb k0 bW;go_wp2;go_roundw
       case measure=>simp[intOf];omega
       exact⟨ev+1,by omega,by simp,by rw[BF.out];simp,trivial⟩
      ·have VO:¬((ev:Int)<(N.ins.length:Int)):=by omega
       have hB:N.ins.take ev=N.ins:=fQ (by omega);have km:Hid (40*Lw+hH (N.ins.take ev)=Gc N):=by show _=_;rw[hB,Ww.out,vn.out,nf.out];rfl
       rw[km.out];clear hB;go_wp2;go_ret
       exact⟨rfl,nY.trans (au.mono nY.size)⟩
end Go.Proofs.YtcbcenfjigcfkaaGreatDoor
