import Derived.Test.YtcbcenfjigcfkaaGreatDoorK11
import Derived.Deep.RegionHeldLaw
set_option maxRecDepth 100000
set_option maxHeartbeats 40000000
namespace Go.Proofs.YtcbcenfjigcfkaaGreatDoor
open Go.RowKit
variable {I wr:World} {n:Nat} {v:Value}
theorem amI (w:World) (kind width num:Int) (aa:Option Addr) (bv ac:Nat) (X:kind=20∨kind=21) (b o:Nat) (D:b<w.heap.size) (x y:Int) (n ca:Nat) (ag:(1:Int)<(n:Int)) (c0:w.cell? ⟨b,o,none⟩=some (.int .i64 x)) (c1:w.cell? ⟨b,o+1,none⟩=some (.int .i64 y)) :
  Calls Tryz.prog 38 #[.agg #[.int .i64 kind,.int .i64 width,.int .u64 num,.slice aa bv ac],.slice (some ⟨b,o,none⟩) n ca] w fun e B=>e = .returned (.bool (decide (x=y∧width=1)))∧V w B:=by
 by_cases h:x=y
 ·subst h;rcases X with rfl | rfl
  all_goals
   go_enter Tryz.func38,Tryz.ntmps38
   go_wp2;go_quiet (fail)
   go_wp2;go_ret
   exact⟨ia (by rw[iI];simp),Below.drewN ((ax _ _).alloc (aL _) _) _⟩
 ·have U:(x==y)=false:=by simp[h]
  rcases X with rfl | rfl
  all_goals
   go_enter Tryz.func38,Tryz.ntmps38
   go_wp2;go_quiet (fail)
   go_wp2;go_ret
   exact⟨ia (by rw[iI];simp[h]),Below.drewN ((ax _ _).alloc (aL _) _) _⟩
theorem amF (w:World) (width num:Int) (aa:Option Addr) (bv ac:Nat) (b o:Nat) (D:b<w.heap.size) (x y z:Int) (n ca:Nat) (mb:(1:Int)<(n:Int)) (j3:(2:Int)<(n:Int)) (c0:w.cell? ⟨b,o,none⟩=some (.int .i64 x)) (c1:w.cell? ⟨b,o+1,none⟩=some (.int .i64 y)) (c2:w.cell? ⟨b,o+2,none⟩=some (.int .i64 z)) :
  Calls Tryz.prog 38 #[.agg #[.int .i64 22,.int .i64 width,.int .u64 num,.slice aa bv ac],.slice (some ⟨b,o,none⟩) n ca] w fun e B=>e = .returned (.bool (decide (x=1∧y=width∧z=width)))∧V w B:=by
 by_cases h:x=1
 ·subst h;by_cases O:y=width
  ·subst O;go_enter Tryz.func38,Tryz.ntmps38
   go_wp2;go_quiet (fail)
   go_wp2;go_ret
   exact⟨ia (by rw[iI];simp),Below.drewN ((ax _ _).alloc (aL _) _) _⟩
  ·have U:(y==width)=false:=by simp[O]
   go_enter Tryz.func38,Tryz.ntmps38
   go_wp2;go_quiet (fail)
   go_wp2;go_ret
   exact⟨ia (by rw[iI];simp[O]),Below.drewN ((ax _ _).alloc (aL _) _) _⟩
 ·have U:(x==1)=false:=by simp[h]
  go_enter Tryz.func38,Tryz.ntmps38
  go_wp2;go_quiet (fail)
  go_wp2;go_ret
  exact⟨ia (by rw[iI];simp[h]),Below.drewN ((ax _ _).alloc (aL _) _) _⟩
theorem amJ (w:World) (width num:Int) (aI:0<=num) (iT:1<=width) (bT:width<=32) (aa:Option Addr) (bv ac:Nat) (b o:Nat) (D:b<w.heap.size) (x:Int) (Ix:1<=x) (DQ:x<=32) (n ca:Nat) (yF:(0:Int)<(n:Int)) (c0:w.cell? ⟨b,o,none⟩=some (.int .i64 x)) :
  Calls Tryz.prog 38 #[.agg #[.int .i64 5,.int .i64 width,.int .u64 num,.slice aa bv ac],.slice (some ⟨b,o,none⟩) n ca] w fun e B=>e = .returned (.bool (decide (num<x∧num+width<=x)))∧V w B:=by
 have bp:IntKind.u64.wrap x=x:=qD _ (by omega) (by omega);by_cases h:num<x
 ·have aS:IntKind.i64.wrap num=num:=mj _ (by omega) (by omega);have bM:=bF (num+width);go_enter Tryz.func38,Tryz.ntmps38
  go_wp2;go_quiet (fail)
  go_wp2;go_ret
  exact⟨ia (by rw[iI];simp[h]),Below.drewN ((ax _ _).alloc (aL _) _) _⟩
 ·have U:decide (num<x)=false:=by simp[h]
  go_enter Tryz.func38,Tryz.ntmps38
  go_wp2;go_quiet (fail)
  go_wp2;go_ret
  exact⟨ia (by first | (symm;rw[vf];omega) | (rw[iI];simp;omega)),Below.drewN ((ax _ _).alloc (aL _) _) _⟩
theorem amG (w:World) (width:Nat) (num:Int) (iT:1<=width) (bT:width<=32) (aa:Option Addr) (bv ac:Nat) (ee:Option Addr) (n ca:Nat) :
  Calls Tryz.prog 38 #[.agg #[.int .i64 1,.int .i64 (width:Int),.int .u64 num,.slice aa bv ac],.slice ee n ca] w fun e B=>e = .returned (.bool (decide (num<=((2^width:Nat):Int) - 1)))∧V w B:=by
 have a9:=K (fun w=>ae6 width iT bT w);go_enter Tryz.func38,Tryz.ntmps38
 go_wp2;go_quiet ((go_at_call 19;exact Calls.quiet_of_same (a9 _)))
 go_wp2;go_ret
 exact⟨rfl,Below.drewN ((ax _ _).alloc (aL _) _) _⟩
theorem ags (ws:List Int) (k:Nat) (X:k<ws.length):(ws.take (k+1)).sum=(ws.take k).sum+bi ws k:=by
 rw[List.take_add_one,List.sum_append,bi,ct X];simp
theorem agr (ws:List Int) (h:∀x,x∈ws->1<=x∧x<=32) (k:Nat):0<=(ws.take k).sum∧(ws.take k).sum<=32*(k:Int):=by
 induction ws generalizing k with
 | nil=>simp;omega
 | cons a l aA =>
  cases k with
  | zero=>simp
  | succ k =>
   have:=aA (fun x J=>h x (qd _ J)) k
   have:=h a qe
   simp only[List.take_succ_cons,List.sum_cons];push_cast;omega
theorem amE (w:World) (width num:Int) (aa:Option Addr) (bv ac:Nat) (b o:Nat) (D:b<w.heap.size) (ws:List Int) (ca:Nat) (hg:Hid (∀x,x∈ws->1<=x∧x<=32)) (hl:ws.length<cd)
  (ar:Hid (∀i,i<ws.length->w.cell? ⟨b,o+i,none⟩=some (.int .i64 (bi ws i)))) :
  Calls Tryz.prog 38 #[.agg #[.int .i64 7,.int .i64 width,.int .u64 num,.slice aa bv ac],.slice (some ⟨b,o,none⟩) ws.length ca] w fun e B=>e = .returned (.bool (decide (ws.sum=width)))∧V w B:=by
 have hC:(ws.length:Int)<17592186044416:=by have:=hl;simp only[cd] at this;omega
 clear hl;go_enter Tryz.func38,Tryz.ntmps38
 go_wp2_with fail
 generalize av:w.alloc (.cells #[.int .i64 7,.int .i64 width,.int .u64 num,.slice aa bv ac] 54)=I;have aD:Hid (V w I):=by rw[<-av];exact(ax _ _).alloc (aL _) _
 have cy:I.cell? ⟨w.heap.size,1,none⟩=some (.int .i64 width):=by rw[<-av];simp
 have gC:Hid (∀i,i<ws.length->I.cell? ⟨b,o+i,none⟩=some (.int .i64 (bi ws i))):=fun i hi=>(aD.cell (p:=⟨b,o+i,none⟩) D).trans (ar i hi)
 clear av;go_loopw [5,6] (fun s i B=>∃(k:Nat) (t:Int),k<=ws.length∧i = .int .i64 k∧s = .int .i64 t∧Hid (t=(ws.take k).sum)∧B=I) (fun _ i _=>ws.length - (intOf i).toNat)
 case atStart=>exact⟨0,0,cE _,rfl,rfl,by show _=_;simp,rfl⟩
 case round =>
  obtain⟨k,t,X,rfl,rfl,jp,rfl⟩:=hrel;have eg:=agr ws hg k;rw[<-jp.out] at eg;by_cases aB:k<ws.length
  ·have c:=gC k aB;have J:=hg (bi ws k) (by simp[bi,List.getElem?_eq_getElem aB]);have hs:=ags ws k aB;generalize bi ws k=x at c J hs;have jo:Hid ((ws.take (k+1)).sum=t+x):=by show _=_;rw[hs,jp.out]
   clear hs jp;have fa:(k:Int)<(ws.length:Int):=by omega
   have bp:=bF (t+x);have aS:=bF ((k:Int)+1);go_wp2;go_roundw
   case measure=>simp[intOf];omega
   exact⟨k+1,t+x,by omega,by simp,rfl,jo.symm,trivial⟩
  ·have cQ:¬((k:Int)<(ws.length:Int)):=by omega
   have jo:Hid (t=ws.sum):=by show _=_;rw[jp.out,fQ (by omega)]
   clear jp;go_wp2;go_ret
   refine⟨?_,aD⟩;rw[<-jo.out]
   first|rfl|exact ia (by rw[iI];simp)
theorem acr (w:World) (kind width num:Int) (iT:1<=width) (bT:width<=32) (ag:0<=num) (aa:Option Addr) (bv ac:Nat) (ee:Option Addr) (ws:List Int) (ca:Nat) (ak:cm w.heap.size w ee 1 (ws.map j4))
  (hg:∀x,x∈ws->1<=x∧x<=32) (hl:ws.length<cd) (F:0<=ew kind->(ws.length:Int)=ew kind) (O:ew kind=-1->ws≠[]) :
  Calls Tryz.prog 38 #[.agg #[.int .i64 kind,.int .i64 width,.int .u64 num,.slice aa bv ac],.slice ee ws.length ca] w fun e B=>e = .returned (.bool (hX kind width num ws))∧V w B:=by
 have HL:∀n,0<n->ws.length=n->∃b o,ee=some ⟨b,o,none⟩∧b<w.heap.size∧∀(i:Nat),i<ws.length->w.cell? ⟨b,o+i,none⟩=some (.int .i64 (bi ws i)):=fun n aI e=>ak.int (i:=0) (by omega)
 rcases amD kind with h | ⟨n1,mv,og,IJ,ars,RV,art,Cn,D2,arl,arm,arn,aro,arp,arq,arr,aff,afg⟩
 ·rcases h with rfl | rfl | h | h | h | h | h | rfl | rfl
  ·have e:=F (by decide);obtain⟨b,o,rfl,D,ar⟩:=HL 1 (by decide) (by simp[ew] at e;omega);have J:=hg (bi ws 0) (by(have:0<ws.length:=by simp[ew] at e;omega);simp[bi,List.getElem?_eq_getElem this]);exact amJ w width num ag iT bT aa bv ac b o D _ J.1 J.2 _ ca (by simp[ew] at e;omega) (ar 0 (by simp[ew] at e;omega))
  ·have e:=O (by decide);have aE:0<ws.length:=List.length_pos_iff.2 e;obtain⟨b,o,rfl,D,ar⟩:=HL ws.length aE rfl;exact amE w width num aa bv ac b o D ws ca hg hl ar
  ·subst h;have e:=F (by decide);obtain⟨b,o,rfl,D,ar⟩:=HL 1 (by decide) (by simp[ew] at e;omega);exact acs w _ width num aa bv ac (.inl rfl) b o D _ _ ca (by simp[ew] at e;omega) (ar 0 (by simp[ew] at e;omega))
  ·have e:hX kind width num ws=decide (width=1):=by rcases h with rfl | rfl | rfl <;> rfl
   rw[e];exact amL w kind width num aa bv ac h ee _ ca
  ·have e:ew kind=2:=by rcases h with rfl | rfl | rfl | rfl | rfl | rfl <;> rfl
   have aS:=F (by rw[e];decide);rw[e] at aS;obtain⟨b,o,rfl,D,ar⟩:=HL 2 (by decide) (by omega);have bM:hX kind width num ws=decide (bi ws 0=width∧bi ws 1=width):=by rcases h with rfl | rfl | rfl | rfl | rfl | rfl <;> rfl
   rw[bM];exact amK w kind width num aa bv ac h b o D _ _ _ ca (by omega) (ar 0 (by omega)) (ar 1 (by omega))
  ·have e:ew kind=2:=by rcases h with rfl | rfl <;> rfl
   have aS:=F (by rw[e];decide);rw[e] at aS;obtain⟨b,o,rfl,D,ar⟩:=HL 2 (by decide) (by omega);have bM:hX kind width num ws=decide (bi ws 0=width):=by rcases h with rfl | rfl <;> rfl
   rw[bM];exact acs w kind width num aa bv ac (.inr h) b o D _ _ ca (by omega) (ar 0 (by omega))
  ·have e:ew kind=2:=by rcases h with rfl | rfl <;> rfl
   have aS:=F (by rw[e];decide);rw[e] at aS;obtain⟨b,o,rfl,D,ar⟩:=HL 2 (by decide) (by omega);have bM:hX kind width num ws=decide (bi ws 0=bi ws 1∧width=1):=by rcases h with rfl | rfl <;> rfl
   rw[bM];exact amI w kind width num aa bv ac h b o D _ _ _ ca (by omega) (ar 0 (by omega)) (ar 1 (by omega))
  ·have e:ew 22=3:=rfl;have aS:=F (by rw[e];decide);rw[e] at aS;obtain⟨b,o,rfl,D,ar⟩:=HL 3 (by decide) (by omega);exact amF w width num aa bv ac b o D _ _ _ _ ca (by omega) (by omega) (ar 0 (by omega)) (ar 1 (by omega)) (ar 2 (by omega))
  ·have aw:width=((width.toNat:Nat):Int):=by omega
   have e:hX 1 width num ws=decide (num<=((2^width.toNat:Nat):Int) - 1):=rfl;rw[e]
   have:=amG w width.toNat num (by omega) (by omega) aa bv ac ee ws.length ca
   rw[<-aw] at this;exact this
 ·have e:hX kind width num ws=true:=by
   unfold hX;rw[if_neg n1,if_neg mv,if_neg og,if_neg (by omega),if_neg (by omega),if_neg (by omega),if_neg (by omega),if_neg aff,if_neg afg]
  rw[e];exact amH w kind width num aa bv ac n1 mv og IJ ars RV art Cn D2 arl arm arn aro arp arq arr aff afg ee _ ca
def f2 (N:aR) (a:Int):Int:=(N.nodes[a.toNat]?.map eO.width).getD 0
def cG (N:aR) (l:List Int):List Int:=l.map (f2 N)
def jH (i:Nat) (a:Int):Bool:=decide (a<0∨(i:Int)<=a)
abbrev oh (d:eO):Prop:=cL d.width=false∨ew d.kind=-2∨(0<=ew d.kind∧(d.args.length:Int)≠ew d.kind)∨(ew d.kind=-1∧d.args.length=0)
def lj (N:aR) (d:eO):Bool :=
 if d.kind=30 then decide (d.num<(N.ins.length:Int)∧bi N.ins d.num.toNat=d.width)
 else if d.kind=31 then decide (d.num<(N.regs.length:Int)∧((N.regs[d.num.toNat]?.map l4.width).getD 0)=d.width)
 else if d.kind=32 then decide (d.num<(N.mems.length:Int)∧((N.mems[d.num.toNat]?.map hf.width).getD 0)=d.width)
 else if d.kind=1∨d.kind=5 then hX d.kind d.width d.num (cG N d.args)
 else decide (d.num=0∧hX d.kind d.width d.num (cG N d.args)=true)
def pz (N:aR) (i:Nat) (d:eO):Bool :=
 if oh d then false else if d.args.any (jH i) then false else lj N d
theorem apU:(Tryz.prog.info? 3).map (fun i=>(i.zero,i.size,i.bytes))=some (some (.int .i64 0),1,8):=by kernel_rfl
theorem WW:∃i,Tryz.prog.info? 3=some i∧i.zero=some (.int .i64 0)∧i.size=1∧i.bytes=8:=by
 have h:=apU;cases hi:Tryz.prog.info? 3 with
 | none=>rw[hi] at h;cases h
 | some i=>rw[hi] at h;simp at h;exact⟨i,rfl,h.1,h.2.1,h.2.2⟩
theorem arV (Y:Nat) (w:World) (S:dp) (N:aR) (h:eM Y w S N) (aM:Y<=w.heap.size) (i:Nat) (d:eO) (U:N.nodes[i]?=some d) (aY:oh d) :
  Calls Tryz.prog 20 #[.agg (S.cells N),.int .i64 i] w fun e B=>e = .returned (.bool false)∧V w B:=by
 unfold dp.cells;obtain⟨b,o,ad,aB,ar⟩:=h.n.el U;have hi:i<N.nodes.length:=by
  rcases Nat.lt_or_ge i N.nodes.length with d9 | d9
  ·exact d9
  ·rw[oN d9] at U;cases U
 have c0:w.cell? ⟨b,o+i*4,none⟩=_:=ar 0 _ rfl;have c1:=ar 1 _ rfl;have c2:=ar 2 _ rfl;have c3:=ar 3 _ rfl;have D:b<w.heap.size:=bk aB aM;have KF:(i:Int)<(N.nodes.length:Int):=by omega
 have j1:Hid (∀w,Calls Tryz.prog 18 #[.int .i64 d.width] w fun e B=>e = .returned (.bool (cL d.width))∧B=w):=fun w=>LK d.width w
 have Aa:Hid (∀w,Calls Tryz.prog 37 #[.int .i64 d.kind] w fun e B=>e = .returned (.int .i64 (ew d.kind))∧B=w):=fun w=>YC d.kind w
 have a6:Hid (oh d):=aY;rw[ad];clear ad ar h U aY;obtain⟨kind,width,num,args,aa,ac⟩:=d;simp only at c0 c1 c2 c3 j1 Aa;unfold oh at a6;simp only at a6;generalize cL width=aQ at j1 a6;generalize ew kind=aj at Aa a6;have jD:aQ=false∨(aQ=true∧aj=-2)∨(aQ=true∧aj≠-2∧0<=aj∧(args.length:Int)≠aj)∨(aQ=true∧aj=-1∧(args.length:Int)=0):=by
  have:=a6.out
  cases aQ
  ·exact .inl rfl
  ·right
   rcases this with h | h | h | h
   ·cases h
   ·exact .inl ⟨rfl,h⟩
   ·exact .inr (.inl ⟨rfl,by omega,h.1,h.2⟩)
   ·exact .inr (.inr ⟨rfl,h.1,by omega⟩)
 clear a6;rcases jD with rfl | ⟨rfl,rfl⟩ | ⟨rfl,F,O,aW⟩ | ⟨rfl,rfl,aW⟩
 all_goals
  go_enter Tryz.func20,Tryz.ntmps20
  go_wp2_with (first | (go_at_call 18;refine(j1 _).mono ?_;rintro e B ⟨rfl,rfl⟩) | (go_at_call 37;refine(Aa _).mono ?_;rintro e B ⟨rfl,rfl⟩))
  go_ret
  exact⟨rfl,((ax _ _).alloc (aL _) _).alloc (by simp) _⟩
def vE (x:Int):Value:= .int .i64 x
theorem afH {w:World} {C:Nat} {xs:List Int} (h:w.ownsRow C 3 1 v n (xs.map vE)) :
  n=xs.length∧∃ee ca,v = .slice ee n ca∧cm w.heap.size w ee 1 (xs.map j4):=by
 have hl:n=xs.length:=by have:=h.1;simp at this;omega
 refine⟨hl,?_⟩;rcases h.2 with ⟨aI,F⟩ | ⟨g,cap,hV,L,F⟩
 ·refine⟨none,0,by rw[aI,F],fun ay=>?_⟩;exfalso;apply ay;have:xs.length=0:=by omega
  rw[List.length_eq_zero_iff.1 this];rfl
 ·refine⟨some ⟨g,0,none⟩,cap,L,fun _=>⟨g,0,rfl,?_,?_⟩⟩
  ·exact(h.lt g (by rw[L];rfl)).2
  ·intro i cs hi j x aT;have ar:=h.cells (g:=g) (by rw[L];rfl) i;rw[fT] at hi;cases J:xs[i]? with
   | none=>rw[J] at hi;cases hi
   | some y =>
    rw[J] at hi;have e:[Value.int .i64 y]=cs:=by simpa[j4] using hi
    subst e;cases j with
    | succ j=>simp at aT
    | zero =>
     have yv:Value.int .i64 y=x:=by simpa using aT
     subst yv
     have:=ar (.int .i64 y) (by rw[fT,J];rfl)
     rw[HH] at this;simpa using this
theorem gl {B:World} (h:V I B):V I B∧(∀bw o,bw<I.heap.size->B.cell? ⟨bw,o,none⟩=I.cell? ⟨bw,o,none⟩):=⟨h,fun bw o D=>h.cell (p:=⟨bw,o,none⟩) D⟩
theorem X9 (h:V I wr) (o:Obj):V I ((wr.alloc o).drew)∧(∀bw q,bw<I.heap.size->((wr.alloc o).drew).cell? ⟨bw,q,none⟩=I.cell? ⟨bw,q,none⟩):=gl (h.alloc h.size o).drew
theorem Qv {al:World} (h:V I wr) {o:Obj} {e:TypeId} {size:Nat} {xs:List Value} (a6:wr.ownsRow I.heap.size e size v n xs) (af:((wr.alloc o).drew).grownBy al v.ownBlock):V I al :=
 (h.alloc h.size o).drew.grown af (bL h.size (by simp)) (fun k X=>(a6.lt k X).1)
theorem Ya {al:World} (h:V I wr) {o:Obj} {e:TypeId} {size:Nat} {xs:List Value} (a6:wr.ownsRow I.heap.size e size v n xs) (af:((wr.alloc o).drew).grownBy al v.ownBlock):V I al∧(∀bw q,bw<I.heap.size->al.cell? ⟨bw,q,none⟩=I.cell? ⟨bw,q,none⟩):=gl (Qv h a6 af)
end Go.Proofs.YtcbcenfjigcfkaaGreatDoor
