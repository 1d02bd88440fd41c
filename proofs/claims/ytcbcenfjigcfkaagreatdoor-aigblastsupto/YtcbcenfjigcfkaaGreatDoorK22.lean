import Derived.Test.YtcbcenfjigcfkaaGreatDoorK19
set_option maxRecDepth 100000
set_option maxHeartbeats 40000000
namespace Go.Proofs.YtcbcenfjigcfkaaGreatDoor
open Go.RowKit
theorem awe (Y:Nat) (w:World) (a7:Nat) (S:dp) (N:aR) (h:mn Y w a7 S N) (aM:Y<=w.heap.size) (ab bj:Nat) (d:eO) (U:oR Y w N ab bj d) (bO:∀a,a∈d.args->0<=a∧a<(N.nodes.length:Int)) (X:d.kind=7) (nf:Hid (∀x,x∈cG N d.args->1<=x∧x<=32)) :
  Calls Tryz.prog 68 #[iF a7,.pointer (some ⟨ab,bj,none⟩)] w fun e B=>e = .returned (.bool (decide ((cG N d.args).sum=d.width)))∧V w B:=by
 have c0:w.cell? ⟨ab,bj,none⟩=some (.int .i64 d.kind):=U.cells 0 _ rfl;have c1:=U.cells 1 _ rfl;have c3:=U.cells 3 _ rfl;have cR:ab<w.heap.size:=bk U.lt aM;have aU:=U.len;simp only[cd] at aU;have sw:Hid (∀(k:Nat),k<d.args.length->∀(x:Int),x=(k:Int)->∀B,V w B->∀kI gs,B.cell? ⟨kI,0,none⟩=some (.pointer (some ⟨a7,0,none⟩))->B.cell? ⟨gs,0,none⟩=some (.pointer (some ⟨ab,bj,none⟩))->Calls Tryz.prog 89 #[.int .i64 x,.pointer (some ⟨kI,0,none⟩),.pointer (some ⟨gs,0,none⟩)] B fun e bs=>e = .returned (.int .i64 (bi (cG N d.args) k))∧V B bs) :=
  fun k X x J B aV kI gs bb L=>OZ Y B a7 S N (h.to (aV.mono aM)) ab bj d (U.to (aV.mono aM)) bO kI gs bb L k X x J
 have B8:∀(fn:Fn) (first cap:Array Value) (w:World),(Instr.makeFunc fn first cap).run Tryz.prog w = .ok (.func fn first cap) w:=fun _ _ _ _=>rfl
 unfold iF;clear h U bO;obtain⟨kind,width,num,args,aa,ac⟩:=d;simp only at *;have lO:Hid ((cG N args).length=args.length):=by show _=_;simp[cG]
 generalize cG N args=ws at *;subst X
 all_goals
  go_enter Tryz.func68,Tryz.ntmps68
  go_wp2_with fail
  generalize av:World.alloc (World.alloc w (.cells #[.pointer (some ⟨a7,0,none⟩)] _)) (.cells #[.pointer (some ⟨ab,bj,none⟩)] _)=I;have aD:Hid (V w I):=by rw[<-av];exact((ax _ _).alloc (aL _) _).alloc (by simp) _
  have uO:I.cell? ⟨w.heap.size,0,none⟩=some (.pointer (some ⟨a7,0,none⟩)):=by rw[<-av];simp
  have tz:I.cell? ⟨w.heap.size+1,0,none⟩=some (.pointer (some ⟨ab,bj,none⟩)):=by rw[<-av];simp
  have mK:w.heap.size<I.heap.size:=by rw[<-av];simp;omega
  have hy:w.heap.size+1<I.heap.size:=by rw[<-av];simp
  clear av;have m3:=(aD.cell (p:=⟨ab,bj,none⟩) cR).trans c0;have k1:=(aD.cell (p:=⟨ab,bj+1,none⟩) cR).trans c1;have k3:=(aD.cell (p:=⟨ab,bj+3,none⟩) cR).trans c3;have iu:ab<I.heap.size:=Nat.lt_trans cR mK;clear c0 c1 c3;have hg:Hid (∀x,x∈ws->1<=x∧x<=32):=nf;have aig:Hid (∀(k:Nat),k<args.length->∀B,V I B->Calls Tryz.prog 89 #[.int .i64 k,.pointer (some ⟨w.heap.size,0,none⟩),.pointer (some ⟨w.heap.size+1,0,none⟩)] B fun e bs=>e = .returned (.int .i64 (bi ws k))∧V B bs) :=
   fun k X B aV=>sw k X k rfl B (aD.trans (aV.mono aD.size)) _ _ ((aV.cell (p:=⟨w.heap.size,0,none⟩) mK).trans uO) ((aV.cell (p:=⟨w.heap.size+1,0,none⟩) hy).trans tz)
  clear sw nf;go_wp2_with fail
  go_loopw [6,101] (fun s i B=>∃(k:Nat) (t:Int),k<=args.length∧i = .int .i64 k∧s = .int .i64 t∧Hid (t=(ws.take k).sum)∧Hid (V I B)) (fun _ i _=>args.length - (intOf i).toNat)
  case atStart=>exact⟨0,0,cE _,rfl,rfl,by show _=_;simp,ax _ _⟩
  case round =>
   obtain⟨k,t,X,rfl,rfl,jp,au⟩:=hrel;have eg:=agr ws hg k;rw[<-jp.out] at eg;by_cases aB:k<args.length
   ·have adz:k<ws.length:=by rw[lO.out];exact aB
    have C:=K (aig k aB);have J:=hg (bi ws k) (by simp[bi,List.getElem?_eq_getElem adz]);have hs:=ags ws k adz;generalize bi ws k=x at C J hs;have jo:Hid ((ws.take (k+1)).sum=t+x):=by show _=_;rw[hs,jp.out]
    clear hs jp;have fa:(k:Int)<(args.length:Int):=by omega
    have bp:=bF (t+x);have aS:=bF ((k:Int)+1);go_wp2_with (go_at_call 89;refine(C _ au).mono ?_;rintro e w2 ⟨rfl,bH⟩)
    go_roundw
    case measure=>simp[intOf];omega
    exact⟨k+1,t+x,by omega,by simp,rfl,jo.symm,au.trans (bH.mono au.size)⟩
   ·have cQ:¬((k:Int)<(args.length:Int)):=by omega
    have jo:Hid (t=ws.sum):=by show _=_;rw[jp.out,fQ (by rw[lO.out];omega)]
    clear jp;have co:=(au.cell (p:=⟨ab,bj+1,none⟩) iu).trans k1;have az2:=(au.cell (p:=⟨w.heap.size+1,0,none⟩) hy).trans tz;go_wp2;go_ret
    refine⟨?_,aD.trans (au.mono aD.size)⟩;rw[<-jo.out]
    first|rfl|exact ia (by rw[iI];simp)
theorem awh (Y:Nat) (w:World) (a7:Nat) (S:dp) (N:aR) (_h:mn Y w a7 S N) (aM:Y<=w.heap.size) (ab bj:Nat) (d:eO) (U:oR Y w N ab bj d) (X:d.kind≠8∧d.kind≠18∧d.kind≠19∧d.kind≠12∧d.kind≠13∧d.kind≠14∧d.kind≠15∧d.kind≠16∧d.kind≠17∧d.kind≠9∧d.kind≠10∧d.kind≠11∧d.kind≠20∧d.kind≠21∧d.kind≠22∧d.kind≠7) :
  Calls Tryz.prog 68 #[iF a7,.pointer (some ⟨ab,bj,none⟩)] w fun e B=>e = .returned (.bool (true))∧V w B:=by
 have c0:w.cell? ⟨ab,bj,none⟩=some (.int .i64 d.kind):=U.cells 0 _ rfl;have c1:=U.cells 1 _ rfl;have c3:=U.cells 3 _ rfl;have cR:ab<w.heap.size:=bk U.lt aM;have aU:=U.len;simp only[cd] at aU;have B8:∀(fn:Fn) (first cap:Array Value) (w:World),(Instr.makeFunc fn first cap).run Tryz.prog w = .ok (.func fn first cap) w:=fun _ _ _ _=>rfl
 unfold iF;clear U;obtain⟨kind,width,num,args,aa,ac⟩:=d;simp only at *;rcases X with ⟨ax3,axU,axV,axO,axP,axQ,axR,axS,axT,Qt,axM,axN,axW,axX,axY,amZ⟩
 all_goals
  go_enter Tryz.func68,Tryz.ntmps68
  go_wp2_with fail
  generalize av:World.alloc (World.alloc w (.cells #[.pointer (some ⟨a7,0,none⟩)] _)) (.cells #[.pointer (some ⟨ab,bj,none⟩)] _)=I;have aD:Hid (V w I):=by rw[<-av];exact((ax _ _).alloc (aL _) _).alloc (by simp) _
  have uO:I.cell? ⟨w.heap.size,0,none⟩=some (.pointer (some ⟨a7,0,none⟩)):=by rw[<-av];simp
  have tz:I.cell? ⟨w.heap.size+1,0,none⟩=some (.pointer (some ⟨ab,bj,none⟩)):=by rw[<-av];simp
  have mK:w.heap.size<I.heap.size:=by rw[<-av];simp;omega
  have hy:w.heap.size+1<I.heap.size:=by rw[<-av];simp
  clear av;have m3:=(aD.cell (p:=⟨ab,bj,none⟩) cR).trans c0;have k1:=(aD.cell (p:=⟨ab,bj+1,none⟩) cR).trans c1;have k3:=(aD.cell (p:=⟨ab,bj+3,none⟩) cR).trans c3;have iu:ab<I.heap.size:=Nat.lt_trans cR mK;clear c0 c1 c3;go_wp2;go_ret
  exact⟨rfl,aD⟩
def numOf (N:aR) (d:eO):Bool :=
 if d.kind=1 then decide (d.num<=i3 d.width)
 else if d.kind=5 then decide (d.width<=bi (cG N d.args) 0∧d.num<=bi (cG N d.args) 0 - d.width)
 else if d.kind=30 then decide (d.num<(N.ins.length:Int)∧bi N.ins d.num.toNat=d.width)
 else if d.kind=31 then decide (d.num<(N.regs.length:Int)∧((N.regs[d.num.toNat]?.map l4.width).getD 0)=d.width)
 else if d.kind=32 then decide (d.num<(N.mems.length:Int)∧((N.mems[d.num.toNat]?.map hf.width).getD 0)=d.width)
 else decide (d.num=0)
theorem arO (Y:Nat) (w:World) (a7:Nat) (S:dp) (N:aR) (_h:mn Y w a7 S N) (aM:Y<=w.heap.size) (ab bj:Nat) (d:eO) (U:oR Y w N ab bj d) (X:d.kind=1) (aw:cL d.width=true) :
  Calls Tryz.prog 67 #[iF a7,.pointer (some ⟨ab,bj,none⟩)] w fun e B=>e = .returned (.bool (decide (d.num<=i3 d.width)))∧V w B:=by
 have c0:w.cell? ⟨ab,bj,none⟩=some (.int .i64 d.kind):=U.cells 0 _ rfl;have c1:=U.cells 1 _ rfl;have c2:=U.cells 2 _ rfl;have c3:=U.cells 3 _ rfl;have cR:ab<w.heap.size:=bk U.lt aM;have n0:=U.n0;have n1:=U.n1;have hP:Hid (∀w,Calls Tryz.prog 69 #[.int .i64 d.width] w fun e B=>e = .returned (.int .u64 (i3 d.width))∧B=w):=fun w=>afO d.width aw w
 clear U;unfold iF;obtain⟨kind,width,num,args,aa,ac⟩:=d;simp only at *;subst X;generalize i3 width=mk at *;go_enter Tryz.func67,Tryz.ntmps67
 go_wp2_with fail
 go_quiet ((go_at_call 69;exact Calls.quiet_of_same (hP _)))
 go_wp2;go_ret
 exact⟨rfl,(Below.drewN ((ax _ _).alloc (aL _) _) _)⟩
theorem arR (Y:Nat) (w:World) (a7:Nat) (S:dp) (N:aR) (h:mn Y w a7 S N) (aM:Y<=w.heap.size) (ab bj:Nat) (d:eO) (U:oR Y w N ab bj d) (X:d.kind=5) (aw:cL d.width=true) (hl:d.args.length=1) (adm:0<=bi d.args 0∧bi d.args 0<(N.nodes.length:Int)) (J:1<=bi (cG N d.args) 0∧bi (cG N d.args) 0<=32) :
  Calls Tryz.prog 67 #[iF a7,.pointer (some ⟨ab,bj,none⟩)] w fun e B=>e = .returned (.bool (decide (d.width<=bi (cG N d.args) 0∧d.num<=bi (cG N d.args) 0 - d.width)))∧V w B:=by
 have c0:w.cell? ⟨ab,bj,none⟩=some (.int .i64 d.kind):=U.cells 0 _ rfl;have c1:=U.cells 1 _ rfl;have c2:=U.cells 2 _ rfl;have c3:=U.cells 3 _ rfl;have cR:ab<w.heap.size:=bk U.lt aM;have n0:=U.n0;have n1:=U.n1;obtain⟨bJ,cP,bQ,oa,pn⟩:=U.args.int (i:=0) (by omega);have es:w.cell? ⟨bJ,cP,none⟩=some (.int .i64 (bi d.args 0)):=pn 0 (by omega);have bO:=adm;have cy:w.cell? ⟨a7,1,none⟩=some (.slice S.a1 N.nodes.length S.c1):=h.cells 1;have xx:a7<w.heap.size:=bk h.lt aM;obtain⟨y,aF⟩:∃y,N.nodes[(bi d.args 0).toNat]?=some y:=⟨N.nodes[(bi d.args 0).toNat]'(by omega),ct (by omega)⟩
 obtain⟨b,o,sI,aB,ar⟩:=h.net.n.el aF;have un:=ar 1 _ rfl;have D:b<w.heap.size:=bk aB aM;have ayr:bJ<w.heap.size:=bk oa aM;rw[sI] at cy;rw[bQ] at c3;have e:bi (cG N d.args) 0=y.width:=by rw[abG (by omega)];unfold f2;rw[aF];rfl
 rw[e] at J ⊢;have jk:(0:Int)<(d.args.length:Int):=by omega
 generalize bi d.args 0=a at *;generalize y.width=bv at *;clear ar sI bQ pn aF h U e adm;unfold iF;obtain⟨kind,width,num,args,aa,ac⟩:=d;simp only at *;subst X;obtain⟨aI,F⟩:=bO;have aV:1<=width∧width<=32:=by simpa[cL] using aw
 by_cases g:width<=bv
 ·have bp:=bF (bv - width);have aS:IntKind.u64.wrap (bv - width)=bv - width:=qD _ (by omega) (by omega);go_enter Tryz.func67,Tryz.ntmps67
  go_wp2_with fail
  go_quiet (fail)
  go_wp2_with fail
  go_quiet (fail)
  go_wp2;go_ret
  exact⟨ia (by rw[iI];simp[g]),(Below.drewN (Below.drewN ((ax _ _).alloc (aL _) _) _) _)⟩
 ·have af:decide (width<=bv)=false:=by simp[g]
  go_enter Tryz.func67,Tryz.ntmps67
  go_wp2_with fail
  go_quiet (fail)
  go_wp2_with fail
  go_quiet (fail)
  go_wp2;go_ret
  exact⟨ia (by symm;rw[vf];intro kZ;omega),(Below.drewN (Below.drewN ((ax _ _).alloc (aL _) _) _) _)⟩
theorem arM (Y:Nat) (w:World) (a7:Nat) (S:dp) (N:aR) (h:mn Y w a7 S N) (aM:Y<=w.heap.size) (ab bj:Nat) (d:eO) (U:oR Y w N ab bj d) (X:d.kind=30) :
  Calls Tryz.prog 67 #[iF a7,.pointer (some ⟨ab,bj,none⟩)] w fun e B=>e = .returned (.bool (decide (d.num<(N.ins.length:Int)∧bi N.ins d.num.toNat=d.width)))∧V w B:=by
 have c0:w.cell? ⟨ab,bj,none⟩=some (.int .i64 d.kind):=U.cells 0 _ rfl;have c1:=U.cells 1 _ rfl;have c2:=U.cells 2 _ rfl;have c3:=U.cells 3 _ rfl;have cR:ab<w.heap.size:=bk U.lt aM;have n0:=U.n0;have n1:=U.n1;have q:w.cell? ⟨a7,0,none⟩=some (.slice S.a0 N.ins.length S.c0):=h.cells 0;have xx:a7<w.heap.size:=bk h.lt aM;have ll:N.ins.length<cd:=h.net.li;simp only[cd] at ll;have el:Hid (d.num<(N.ins.length:Int)->∃b o,S.a0=some ⟨b,o,none⟩∧b<w.heap.size∧w.cell? ⟨b,o+d.num.toNat,none⟩=some (.int .i64 (bi N.ins d.num.toNat))):=by
  intro g;have aB:d.num.toNat<N.ins.length:=by omega
  obtain⟨b,o,e,D,ar⟩:=h.net.i.int aB;exact⟨b,o,e,bk D aM,ar _ aB⟩
 have Dl:IntKind.u64.wrap (N.ins.length:Int)=(N.ins.length:Int):=qD _ (by omega) (by omega);clear h U;unfold iF;obtain⟨kind,width,num,args,aa,ac⟩:=d;simp only at *;subst X;generalize bi N.ins num.toNat=s2 at *;by_cases g:num<(N.ins.length:Int)
 ·obtain⟨b,o,sI,D,ru⟩:=el g;rw[sI] at q;clear el sI;go_enter Tryz.func67,Tryz.ntmps67
  go_wp2_with fail
  go_quiet (fail)
  go_wp2;go_ret
  exact⟨ia (by rw[iI];simp[g]),(Below.drewN ((ax _ _).alloc (aL _) _) _)⟩
 ·have af:decide (num<(N.ins.length:Int))=false:=by simp[g]
  clear el;go_enter Tryz.func67,Tryz.ntmps67
  go_wp2_with fail
  go_quiet (fail)
  go_wp2;go_ret
  exact⟨ia (by symm;rw[vf];intro kZ;omega),(Below.drewN ((ax _ _).alloc (aL _) _) _)⟩
theorem arQ (Y:Nat) (w:World) (a7:Nat) (S:dp) (N:aR) (h:mn Y w a7 S N) (aM:Y<=w.heap.size) (ab bj:Nat) (d:eO) (U:oR Y w N ab bj d) (X:d.kind=31) :
  Calls Tryz.prog 67 #[iF a7,.pointer (some ⟨ab,bj,none⟩)] w fun e B=>e = .returned (.bool (decide (d.num<(N.regs.length:Int)∧(N.regs[d.num.toNat]?.map l4.width).getD 0=d.width)))∧V w B:=by
 have c0:w.cell? ⟨ab,bj,none⟩=some (.int .i64 d.kind):=U.cells 0 _ rfl;have c1:=U.cells 1 _ rfl;have c2:=U.cells 2 _ rfl;have c3:=U.cells 3 _ rfl;have cR:ab<w.heap.size:=bk U.lt aM;have n0:=U.n0;have n1:=U.n1;have q:w.cell? ⟨a7,2,none⟩=some (.slice S.a2 N.regs.length S.c2):=h.cells 2;have xx:a7<w.heap.size:=bk h.lt aM;have ll:N.regs.length<cd:=h.net.lr;simp only[cd] at ll;have el:Hid (d.num<(N.regs.length:Int)->∃b o,S.a2=some ⟨b,o,none⟩∧b<w.heap.size∧w.cell? ⟨b,o+d.num.toNat*3,none⟩=some (.int .i64 ((N.regs[d.num.toNat]?.map l4.width).getD 0))):=by
  intro g;have aB:d.num.toNat<N.regs.length:=by omega
  obtain⟨y,aF⟩:∃y,N.regs[d.num.toNat]?=some y:=⟨N.regs[d.num.toNat],ct aB⟩
  obtain⟨b,o,e,D,ar⟩:=h.net.r.el aF;refine⟨b,o,e,bk D aM,?_⟩;rw[aF];exact ar 0 _ rfl
 have Dl:IntKind.u64.wrap (N.regs.length:Int)=(N.regs.length:Int):=qD _ (by omega) (by omega);clear h U;unfold iF;obtain⟨kind,width,num,args,aa,ac⟩:=d;simp only at *;subst X;generalize (N.regs[num.toNat]?.map l4.width).getD 0=s2 at *;by_cases g:num<(N.regs.length:Int)
 ·obtain⟨b,o,sI,D,ru⟩:=el g;rw[sI] at q;clear el sI;go_enter Tryz.func67,Tryz.ntmps67
  go_wp2_with fail
  go_quiet (fail)
  go_wp2;go_ret
  exact⟨ia (by rw[iI];simp[g]),(Below.drewN ((ax _ _).alloc (aL _) _) _)⟩
 ·have af:decide (num<(N.regs.length:Int))=false:=by simp[g]
  clear el;go_enter Tryz.func67,Tryz.ntmps67
  go_wp2_with fail
  go_quiet (fail)
  go_wp2;go_ret
  exact⟨ia (by symm;rw[vf];intro kZ;omega),(Below.drewN ((ax _ _).alloc (aL _) _) _)⟩
theorem arN (Y:Nat) (w:World) (a7:Nat) (S:dp) (N:aR) (h:mn Y w a7 S N) (aM:Y<=w.heap.size) (ab bj:Nat) (d:eO) (U:oR Y w N ab bj d) (X:d.kind=32) :
  Calls Tryz.prog 67 #[iF a7,.pointer (some ⟨ab,bj,none⟩)] w fun e B=>e = .returned (.bool (decide (d.num<(N.mems.length:Int)∧(N.mems[d.num.toNat]?.map hf.width).getD 0=d.width)))∧V w B:=by
 have c0:w.cell? ⟨ab,bj,none⟩=some (.int .i64 d.kind):=U.cells 0 _ rfl;have c1:=U.cells 1 _ rfl;have c2:=U.cells 2 _ rfl;have c3:=U.cells 3 _ rfl;have cR:ab<w.heap.size:=bk U.lt aM;have n0:=U.n0;have n1:=U.n1;have q:w.cell? ⟨a7,3,none⟩=some (.slice S.a3 N.mems.length S.c3):=h.cells 3;have xx:a7<w.heap.size:=bk h.lt aM;have ll:N.mems.length<cd:=h.net.lm;simp only[cd] at ll;have el:Hid (d.num<(N.mems.length:Int)->∃b o,S.a3=some ⟨b,o,none⟩∧b<w.heap.size∧w.cell? ⟨b,o+d.num.toNat*2,none⟩=some (.int .i64 ((N.mems[d.num.toNat]?.map hf.width).getD 0))):=by
  intro g;have aB:d.num.toNat<N.mems.length:=by omega
  obtain⟨y,aF⟩:∃y,N.mems[d.num.toNat]?=some y:=⟨N.mems[d.num.toNat],ct aB⟩
  obtain⟨b,o,e,D,ar⟩:=h.net.m.el aF;refine⟨b,o,e,bk D aM,?_⟩;rw[aF];exact ar 0 _ rfl
 have Dl:IntKind.u64.wrap (N.mems.length:Int)=(N.mems.length:Int):=qD _ (by omega) (by omega);clear h U;unfold iF;obtain⟨kind,width,num,args,aa,ac⟩:=d;simp only at *;subst X;generalize (N.mems[num.toNat]?.map hf.width).getD 0=s2 at *;by_cases g:num<(N.mems.length:Int)
 ·obtain⟨b,o,sI,D,ru⟩:=el g;rw[sI] at q;clear el sI;go_enter Tryz.func67,Tryz.ntmps67
  go_wp2_with fail
  go_quiet (fail)
  go_wp2;go_ret
  exact⟨ia (by rw[iI];simp[g]),(Below.drewN ((ax _ _).alloc (aL _) _) _)⟩
 ·have af:decide (num<(N.mems.length:Int))=false:=by simp[g]
  clear el;go_enter Tryz.func67,Tryz.ntmps67
  go_wp2_with fail
  go_quiet (fail)
  go_wp2;go_ret
  exact⟨ia (by symm;rw[vf];intro kZ;omega),(Below.drewN ((ax _ _).alloc (aL _) _) _)⟩
theorem arP (Y:Nat) (w:World) (a7:Nat) (S:dp) (N:aR) (_h:mn Y w a7 S N) (aM:Y<=w.heap.size) (ab bj:Nat) (d:eO) (U:oR Y w N ab bj d) (X:d.kind≠1∧d.kind≠5∧d.kind≠30∧d.kind≠31∧d.kind≠32) :
  Calls Tryz.prog 67 #[iF a7,.pointer (some ⟨ab,bj,none⟩)] w fun e B=>e = .returned (.bool (decide (d.num=0)))∧V w B:=by
 have c0:w.cell? ⟨ab,bj,none⟩=some (.int .i64 d.kind):=U.cells 0 _ rfl;have c1:=U.cells 1 _ rfl;have c2:=U.cells 2 _ rfl;have c3:=U.cells 3 _ rfl;have cR:ab<w.heap.size:=bk U.lt aM;have n0:=U.n0;have n1:=U.n1;clear U;unfold iF;obtain⟨kind,width,num,args,aa,ac⟩:=d;simp only at *;obtain⟨bY,mW,axZ,ax0,ax1⟩:=X;go_enter Tryz.func67,Tryz.ntmps67
 go_wp2_with fail
 go_ret
 exact⟨ia (by first | rfl | (rw[iI];simp)),((ax _ _).alloc (aL _) _)⟩
end Go.Proofs.YtcbcenfjigcfkaaGreatDoor
