import Derived.Test.YtcbcenfjigcfkaaGreatDoorK36
set_option maxRecDepth 100000
set_option maxHeartbeats 40000000
namespace Go.Proofs.YtcbcenfjigcfkaaGreatDoor
open Go.RowKit Go.Stop
variable {w:World}
structure y6 (w:World):Prop where
 et:w.cell? ⟨0,0,none⟩=some (.iface 149 (.agg #[.pointer (some ⟨1,40,none⟩)]))
theorem y6.to {Y:Nat} {B:World} (h:y6 w) (D:Below Y w B) (aM:1<=Y):y6 B :=
 ⟨(D.cell (p:=⟨0,0,none⟩) (by show 0<Y;omega)).trans h.et⟩
theorem age {I:World} {Y b:Nat} (h:V w I) (aM:Y<=b) (HU:Y<=w.heap.size) (v:Value):Below Y w (I.setCell ⟨b,0,none⟩ v):=(h.mono HU).setCell (p:=⟨b,0,none⟩) aM v
theorem alH (p:Nat) (c a:Int) (w:World) (h:qG w p c a) (L:y6 w) (O:1<=w.heap.size) :
  Calls Tryz.prog 8 #[.iface 73 (.pointer (some ⟨p,0,none⟩))] w fun e B=>e = .returned (.tuple #[.int .i64 c,.int .i64 a])∧V w B:=by
 have ch:=K h;have jq:=K L;clear h L;go_enter Tryz.func8,Tryz.ntmps8
 go_upto_region 4 with fail
 generalize av:World.alloc w _=aC;obtain⟨sO,yB⟩:=cf (w.heap.size);have fE:Hid (V w aC):=by rw[<-av];exact(ax _ _).alloc (aL _) _
 have Ar:sO<aC.heap.size:=by rw[<-av,yB];simp
 have m0:aC.cell? ⟨sO,0,none⟩=some (.pointer none):=by rw[<-av,yB];simp
 have pl:aC.frozen? ⟨sO,0,none⟩=false:=by rw[<-av,yB];exact World.frozen?_alloc_at _ _ _ _ (by simp)
 have VN:w.heap.size<=sO:=by omega
 rw[<-yB];clear av yB;have AS:=K (abF ⟨p,0,none⟩ ⟨sO,0,none⟩ (.pointer none) aC (jq.to fE O).et m0 pl)
 change Hid _ at m0
 clear pl;go_wp2_with fail
 go_at_call 30;refine AS.mono ?_;rintro e w1 ⟨rfl,P0,nL,bT⟩;have m1:w1.cell? ⟨sO,0,none⟩=some (.pointer (some ⟨p,0,none⟩)):=by
  rw[bT];exact World.cell?_setCell_same' _ _ _ (by rw[(nL.cell (p:=⟨sO,0,none⟩) Ar).trans m0.out];rfl)
 have bD:Hid (V w w1):=by rw[bT];exact age (fE.trans (nL.mono fE.size)) VN (aL _) _
 clear nL bT AS;go_wp2_with fail
 have c0:=(bD.cell (p:=⟨p,0,none⟩) ch.lt).trans ch.c0;have c1:=(bD.cell (p:=⟨p,1,none⟩) ch.lt).trans ch.c1;go_quiet (fail)
 go_wp2;go_ret2
 exact⟨rfl,Below.drewN bD _⟩
theorem alK (w:World):Calls Tryz.prog 8 #[.nilIface] w fun e B=>e = .returned (.tuple #[.int .i64 0,.int .i64 0])∧B=w:=by
 go_enter Tryz.func8,Tryz.ntmps8
 go_wp2;go_ret2
 exact⟨rfl,rfl⟩
def Js (w:World) (v:Value) (c a:Int):Prop:=(v = .nilIface∧c=0∧a=0)∨∃p,v = .iface 73 (.pointer (some ⟨p,0,none⟩))∧qG w p c a
theorem Js.to {B:World} {v:Value} {c a:Int} (h:Js w v c a) (D:V w B):Js B v c a:=by
 rcases h with h | ⟨p,aE,h⟩
 ·exact .inl h
 ·exact .inr ⟨p,aE,h.to D⟩
theorem alJ (v:Value) (c a:Int) (w:World) (h:Js w v c a) (L:y6 w) (O:1<=w.heap.size) :
  Calls Tryz.prog 8 #[v] w fun e B=>e = .returned (.tuple #[.int .i64 c,.int .i64 a])∧V w B:=by
 rcases h with ⟨rfl,rfl,rfl⟩ | ⟨p,rfl,h⟩
 ·refine(alK w).mono ?_;rintro e B ⟨rfl,rfl⟩;exact⟨rfl,ax _ _⟩
 ·exact alH p c a w h L O
theorem ap4 (v:Value) (x:TypeId) (w:World):(Instr.typeAssert (.iface 73 v) x 40 true).run Tryz.prog w = .ok (.tuple #[.iface 73 v,.bool true]) w :=
 run_typeAssert_hasB Tryz.underlying40 (by kernel_rfl) v x w
theorem as4 (p:Nat) (c:Int) (w:World) (L:y6 w) (O:1<=w.heap.size) :
  Calls Tryz.prog 23 #[.iface 73 (.pointer (some ⟨p,0,none⟩)),.int .i64 c] w fun e B=>e = .returned (.iface 73 (.pointer (some ⟨p,0,none⟩)))∧V w B:=by
 have jq:=K L;have Q2:=ap4;clear L;go_enter Tryz.func23,Tryz.ntmps23
 go_upto_region 4 with fail
 generalize av:World.alloc w _=aC;obtain⟨sO,yB⟩:=cf (w.heap.size);have fE:Hid (V w aC):=by rw[<-av];exact(ax _ _).alloc (aL _) _
 have Ar:sO<aC.heap.size:=by rw[<-av,yB];simp
 have m0:aC.cell? ⟨sO,0,none⟩=some (.pointer none):=by rw[<-av,yB];simp
 have pl:aC.frozen? ⟨sO,0,none⟩=false:=by rw[<-av,yB];exact World.frozen?_alloc_at _ _ _ _ (by simp)
 have VN:w.heap.size<=sO:=by omega
 rw[<-yB];clear av yB;have AS:=K (abF ⟨p,0,none⟩ ⟨sO,0,none⟩ (.pointer none) aC (jq.to fE O).et m0 pl)
 change Hid _ at m0
 clear pl;go_wp2_with fail
 go_at_call 30;refine AS.mono ?_;rintro e w1 ⟨rfl,P0,nL,bT⟩;have m1:w1.cell? ⟨sO,0,none⟩=some (.pointer (some ⟨p,0,none⟩)):=by
  rw[bT];exact World.cell?_setCell_same' _ _ _ (by rw[(nL.cell (p:=⟨sO,0,none⟩) Ar).trans m0.out];rfl)
 have bD:Hid (V w w1):=by rw[bT];exact age (fE.trans (nL.mono fE.size)) VN (aL _) _
 clear nL bT AS;go_wp2;go_ret
 exact⟨rfl,bD⟩
end Go.Proofs.YtcbcenfjigcfkaaGreatDoor
namespace Go.Proofs.YtcbcenfjigcfkaaGreatDoor
open Go.RowKit
theorem UO (w:World) (p:Nat) (S:jm) (G:eq) (h:o9 w p S G) (aI:0<=G.ins) (F:G.ins<=100000000) (O:G.lats.length<cd) :
  Calls Tryz.prog 58 #[.pointer (some ⟨p,0,none⟩)] w fun e B=>e = .returned (.int .i64 G.first)∧∃n,B=w.drewN n:=by
 simp only[cd] at O;obtain⟨lt,c0,c1,c2,c3⟩:=h;go_enter Tryz.func58,Tryz.ntmps58
 go_wp2;go_quiet (fail)
 go_wp2;go_ret
 exact⟨qB rfl,_,rfl⟩
theorem SG (w:World) (p:Nat) (S:jm) (G:eq) (h:o9 w p S G) (aI:0<=G.ins) (F:G.ins<=100000000) (O:G.lats.length<cd) (aW:G.ands.length<cd) :
  Calls Tryz.prog 29 #[.pointer (some ⟨p,0,none⟩)] w fun e B=>e = .returned (.int .i64 G.vars)∧∃n,B=w.drewN n:=by
 have GP:Hid (∀w,o9 w p S G->Calls Tryz.prog 58 #[.pointer (some ⟨p,0,none⟩)] w fun e B=>e = .returned (.int .i64 G.first)∧∃n,B=w.drewN n):=fun w D=>UO w p S G D aI F O
 simp only[cd] at O aW;have lz:=K h;obtain⟨lt,c0,c1,c2,c3⟩:=h;have bp:G.vars=G.first+G.ands.length:=rfl;have aS:G.first=1+G.ins+G.lats.length:=rfl;rw[bp];generalize G.first=hZ at *;go_enter Tryz.func29,Tryz.ntmps29
 go_wp2;go_quiet ((go_at_call 58;exact Calls.quiet_of (GP _ (lz.to lz.lt (Below.drewN (ax _ _) _)))))
 go_wp2;go_ret
 exact⟨qB (by omega),_,rfl⟩
structure jP (C:Nat) (w:World) (bl E g n:Nat) (s:List Bool×List Nat) (jv:Value):Prop where
 c0:w.cell? ⟨bl,0,none⟩=some (.pointer (some ⟨E,0,none⟩))
 c1:w.cell? ⟨bl,1,none⟩=some (.slice (some ⟨g,0,none⟩) n n)
 c2:w.cell? ⟨bl,2,none⟩=some jv
 nd:w.ownsRow C 4 1 (.slice (some ⟨g,0,none⟩) n n) n (s.1.map gi)
 wt:w.ownsRow C 3 1 jv s.2.length (s.2.map xH)
 fr:∀j,w.frozen? ⟨bl,j,none⟩=false
 ge:C<=bl
 lt:bl<w.heap.size
 ne:bl≠g
 nw:jv.ownBlock≠some bl
 ng:jv.ownBlock≠some g
theorem jP.len {C:Nat} {w:World} {bl E g n:Nat} {s:List Bool×List Nat} {jv:Value} (h:jP C w bl E g n s jv):s.1.length=n:=by have:=h.nd.1;simpa using this
theorem jP.to {C:Nat} {w B:World} {bl E g n:Nat} {s:List Bool×List Nat} {jv:Value} (h:jP C w bl E g n s jv) (D:V w B):jP C B bl E g n s jv :=
 ⟨(D.cell (p:=⟨bl,0,none⟩) h.lt).trans h.c0,(D.cell (p:=⟨bl,1,none⟩) h.lt).trans h.c1,(D.cell (p:=⟨bl,2,none⟩) h.lt).trans h.c2,mx h.nd D,mx h.wt D,fun j=>(D.frozen (p:=⟨bl,j,none⟩) h.lt).trans (h.fr j),h.ge,bk h.lt D.size,h.ne,h.nw,h.ng⟩
theorem Om (C:Nat) (w:World) (bl E g n:Nat) (s:List Bool×List Nat) (jv:Value) (h:jP C w bl E g n s jv) (eu:C<=w.heap.size) (ag:n<=100000000) (l:Int) (v:Nat) (aI:0<=l) (L:l.toNat / 2=v) (rL:v<n) (mM:s.2.length<=100000000) :
  Calls Tryz.prog 55 #[.pointer (some ⟨bl,0,none⟩),.int .i64 l] w fun e B=>(∃v,e = .returned v)∧(∃kk,jP C B bl E g n (j5 v s) kk)∧Below C w B:=by
 have pt:s.1.length=n:=h.len;obtain⟨nd,wt⟩:=s;simp only at pt mM;have cy:Int.tdiv l 2=(v:Int):=by rw[Int.tdiv_eq_ediv_of_nonneg aI];omega
 have bp:=bF (v:Int);have WD:(v:Int)<(n:Int):=by omega
 obtain⟨b,D⟩:∃b,nd[v]?=some b:=bS (by omega);have Ur:w.cell? ⟨g,v,none⟩=some (.bool b):=by
  rw[h.nd.cellAt v (by omega),fT,D];rfl
 have c1:=h.c1;have hO:=K h
 change Hid _ at D
 clear h L;go_enter Tryz.func55,Tryz.ntmps55
 cases b
 ·obtain⟨ev,eB,fb,em,b8⟩:=sW
  change Hid _ at eB fb em b8
  have eC:=K (hO.nd.stored v (.bool true));have h1:=hO.nd.frozenAt v;go_upto_region 3 with fail
  generalize xr:World.setCell w _ _=al;rw[xr] at eC;have BD:Hid (al.ownsRow C 4 1 (.slice (some ⟨g,0,none⟩) n n) n ((nd.set v true).map gi)):=by
   have:=eC.1
   rw[show Value.bool true=gi true from rfl,<-List.map_set] at this;exact this
  have zi:w.grownBy al (some g):=eC.2;have Hl:Hid (al.ownsRow C 3 1 jv wt.length (wt.map xH)):=hO.wt.kept zi (.inr hO.ng);have rf:Hid (∀j,al.frozen? ⟨bl,j,none⟩=false):=fun j=>(zi.frozen_far ⟨bl,j,none⟩ hO.lt (by simpa using hO.ne)).trans (hO.fr j)
  have CR:Hid (∀j,al.cell? ⟨bl,j,none⟩=w.cell? ⟨bl,j,none⟩):=fun j=>zi.cell_far ⟨bl,j,none⟩ hO.lt (by simpa using hO.ne)
  have d2:al.cell? ⟨bl,2,none⟩=some jv:=(CR 2).trans hO.c2;have zm:=zi.size;have aB:=hO.lt;have xy:=(hO.nd.lt g rfl).1
  change Hid _ at zi
  clear xr eC h1 Ur c1;have cn:wt.length+1<=maxLen:=by simp only[maxLen];omega
  have cq:(wt.length+1)*8<=140737488355328:=by omega
  have cJ:C<=(al.alloc (.cells #[.int .i64 (v:Int)] 3)).heap.size:=by simp;omega
  have aa5:Hid (∀B,(al.alloc (.cells #[.int .i64 (v:Int)] 3)).grownBy B jv.ownBlock->B.cell? ⟨bl,2,none⟩=some jv∧B.frozen? ⟨bl,2,none⟩=false):=fun B af=>by
   have FJ:al.grownBy B jv.ownBlock:=js (jj _ _ _) af;exact⟨(FJ.cell_far ⟨bl,2,none⟩ (by show bl<_;omega) (fun e=>hO.nw e.symm)).trans d2,(FJ.frozen_far ⟨bl,2,none⟩ (by show bl<_;omega) (fun e=>hO.nw e.symm)).trans (rf 2)⟩
  have tok:True:=trivial;go_wp2_with (have _t:=tok;at_builtin;(refine wpList_append_lies _ rfl (.tmp 25) (.tmp 27) 22 rfl C 3 ev _ 1 8 Tryz.underlying22 eB fb em b8 rfl (by decide) jv wt.length _ rfl (Hl.alloc _) ⟨al.heap.size,0,none⟩ 1 1 [.int .i64 (v:Int)] rfl rfl (i5 (h8 _ _)) (by simp[Value.oneCell']) (by decide) cn cq cJ _ rfl ?_;intro bY cap aH bc br anS ady;clear tok;have yA:=(aa5 aH br).1;have ade:=(aa5 aH br).2))
  generalize QO:World.setCell aH _ _=dN;have rC:al.grownBy aH jv.ownBlock:=js (jj _ _ _) br;have uB:aH.grownBy dN (some bl):=by rw[<-QO];exact oW _ _ _ _
  have hG:bY≠bl∧bY≠g:=by
   have At:g<al.heap.size:=bk (hO.nd.lt g rfl).2 zm;rcases anS with h | h
   ·exact⟨fun e=>hO.nw (by rw[h,e]),fun e=>hO.ng (by rw[h,e])⟩
   ·simp at h;omega
  have FZ:=rC.size;have cj:bl<al.heap.size:=by omega
  have H8:∀j,aH.cell? ⟨bl,j,none⟩=w.cell? ⟨bl,j,none⟩:=fun j=>(rC.cell_far ⟨bl,j,none⟩ cj (fun e=>hO.nw e.symm)).trans (CR j)
  have aog:∀j,aH.frozen? ⟨bl,j,none⟩=false:=fun j=>(rC.frozen_far ⟨bl,j,none⟩ cj (fun e=>hO.nw e.symm)).trans (rf j)
  have cb:j5 v (nd,wt)=(nd.set v true,wt++[v]):=by
   unfold j5;rw[if_neg];simp only;rw[D.out];simp
  have anj:Below C w dN:=((jB zi eu (fun k X=>by have:=Option.some.inj X;omega)).trans (jB rC (by omega) (fun k X=>(hO.wt.lt k X).1))).trans (jB uB (by omega) (fun k X=>by have:=Option.some.inj X;have:=hO.ge;omega));have xB:∀j,j≠2->dN.cell? ⟨bl,j,none⟩=w.cell? ⟨bl,j,none⟩:=fun j aT=>by
   rw[<-QO];exact(oL (h:=fun e=>aT (by cases e;rfl)) ..).trans (H8 j)
  have FS:dN.cell? ⟨bl,2,none⟩=some (.slice (some ⟨bY,0,none⟩) (wt.length+1) cap):=by rw[<-QO];exact on (h:=yA) ..
  go_end0
  refine⟨⟨_,rfl⟩,⟨.slice (some ⟨bY,0,none⟩) (wt.length+1) cap,?_⟩,anj⟩;rw[cb];refine⟨(xB 0 (by decide)).trans hO.c0,(xB 1 (by decide)).trans hO.c1,FS,?_,?_,fun j=>?_,hO.ge,by have:=uB.size;omega,hO.ne,fun e=>hG.1 (by cases e;rfl),fun e=>hG.2 (by cases e;rfl)⟩
  ·exact(BD.kept rC (.inr (fun e=>hO.ng (by rw[<-e];rfl)))).kept uB (.inr (fun e=>hO.ne (by cases e;rfl)))
  ·have:=bc.kept uB (.inr (fun e=>hG.1 (by cases e;rfl)))
   show World.ownsRow _ _ _ _ _ _ _;rw[g1,jw];exact this
  ·rw[<-QO];exact(s6 _ _ _ _).trans (aog j)
 ·go_wp2
  go_end0
  refine⟨⟨_,rfl⟩,⟨jv,?_⟩,ax _ _⟩;have cb:j5 v (nd,wt)=(nd,wt):=by
   unfold j5;rw[if_pos];exact D
  rw[cb];exact hO
def xI (G:eq) (v:Nat) (s:List Bool×List Nat):List Bool×List Nat :=
 if v<jC G then
  match G.lats[v - 1 - G.ins.toNat]? with
  | some l=>j5 (l.next.toNat / 2) s
  | none=>s
 else match G.ands[v - jC G]? with
  | some d=>j5 (d.y.toNat / 2) (j5 (d.x.toNat / 2) s)
  | none=>s
theorem arz {v m:Nat} {s:List Bool×List Nat} (h:s.2.length<=m):(j5 v s).2.length<=m+1:=by
 unfold j5;split
 ·omega
 ·simp;omega
theorem aqQ (C Y:Nat) (w:World) (bl E g n ni:Nat) (S:jm) (G:eq) (hF:lc G ni n) (s:List Bool×List Nat) (jv:Value) (h:jP C w bl E g n s jv) (eu:C<=w.heap.size) (gW:o9 w E S G) (FK:E<C) (aO:iB Y w S G) (uu:Y<=C) (v:Nat) (Ce:ni<v) (rL:v<n) (mM:s.2.length<=99999999) :
  Calls Tryz.prog 56 #[.pointer (some ⟨bl,0,none⟩),.int .i64 (v:Int)] w fun e B=>(∃x,e = .returned x)∧(∃kk,jP C B bl E g n (xI G v s) kk)∧Below C w B:=by
 have GP:Hid (∀B,V w B->Calls Tryz.prog 58 #[.pointer (some ⟨E,0,none⟩)] B fun e bs=>e = .returned (.int .i64 (jC G:Nat))∧∃k,bs=B.drewN k):=fun B aV=>by
  have:=UO B E S G (gW.to gW.lt aV) (by rw[hF.ins];omega) (by have:=hF.first;have:=hF.le;have:=hF.all;rw[hF.ins];omega) aO.ll
  rw[show G.first=((jC G:Nat):Int) by unfold eq.first;rw[hF.ins];have:=hF.first;omega] at this;exact this
 have ch:=K hF;have ef:=hF.first;have iL:=hF.all;have qT:=hF.le;have vk:=K hF.ins;obtain⟨first,qr⟩:=cf (jC G);have CU:=K qr;rw[<-qr] at GP ef iL;have KB:ni+G.lats.length+1<=first:=by omega
 have h0:first<=ni+G.lats.length+1:=by omega
 have c0:=h.c0;have hO:=K h;have mE:=K gW;have gg:=K aO;have At:=gW.lt;clear h gW aO hF qr ef;go_enter Tryz.func56,Tryz.ntmps56
 go_wp2_with fail
 go_at_call 58;refine(GP _ (ax _ _)).mono ?_;rintro e az ⟨rfl,UB,iT⟩;have ir:Hid (V w az):=by rw[iT];exact Below.drewN (ax _ _) _
 have aed:w.heap.size<=az.heap.size:=ir.size;have uf:Hid (jP C az bl E g n s jv):=hO.to ir;have C7:Hid (o9 az E S G):=mE.to At ir;have GR:Hid (iB Y az S G):=gg.to (ir.mono (by omega));clear iT hO mE gg c0 GP;by_cases azM:v<first
 ·obtain⟨i,hi⟩:=cf (v - 1 - ni);have qW:i<G.lats.length:=by omega
  obtain⟨d,U⟩:=bS qW;obtain⟨bG,ck,bQ,gK,cx⟩:=GR.l.el U;obtain⟨ln,vH⟩:=d;have Ru:bG<C:=by omega
  have bO:=ch.lats _ (bn U);simp only at bO;have Nb:xI G v s=j5 (ln.toNat / 2) s:=by
   unfold xI;rw[if_pos (by have:=CU.out;omega),vk.out,show((ni:Int)).toNat=ni by omega,<-hi,U]
  have tg:Hid (∀B,V az B->Calls Tryz.prog 55 #[.pointer (some ⟨bl,0,none⟩),.int .i64 ln] B fun e bs=>(∃x,e = .returned x)∧(∃kk,jP C bs bl E g n (j5 (ln.toNat / 2) s) kk)∧Below C B bs):=fun B aV=>Om C B bl E g n s jv (uf.to aV) (by have:=aV.size;omega) qT ln _ bO.1 rfl (by omega) (by omega)
  have c0:=uf.c0;have gq:=C7.c0;rw[vk.out] at gq;have cy:=C7.c1;rw[bQ] at cy;have Qb:az.cell? ⟨bG,ck+i*2,none⟩=some (.int .i64 ln):=cx 0 _ rfl;have WD:(v:Int)<(first:Int):=by omega
  have bp:=bF ((v:Int) - 1);have aS:IntKind.i64.wrap ((v:Int) - 1 - (ni:Int))=(i:Int):=by rw[mj _ (by omega) (by omega)];omega
  have KF:(i:Int)<(G.lats.length:Int):=by omega
  change Hid _ at Nb
  clear cx bQ U hi gK bO C7 GR;go_upto_region 2 with fail
  (
  refine mR ?_;refine ih (S:=(fun B=>B.cell? ⟨bl,0,none⟩=some (.pointer (some ⟨E,0,none⟩))∧B.cell? ⟨E,0,none⟩=some (.int .i64 (ni:Int))∧B.cell? ⟨E,1,none⟩=some (.slice (some ⟨bG,ck,none⟩) G.lats.length S.c1)∧B.cell? ⟨bG,ck+i*2,none⟩=some (.int .i64 ln))) (by kernel_rfl) (by first | assumption | exact⟨c0,gq,cy,Qb⟩ | exact⟨NY.c0,(bH.cell (p:=⟨E,0,none⟩) FK).trans gq,(bH.cell (p:=⟨E,1,none⟩) FK).trans cy,(bH.cell (p:=⟨bG,ck+i*2,none⟩) Ru).trans Qb⟩) (fun ii=>?_);refine R 0 ?_;refine R 1 ?_;refine R 2 ?_;refine R 3 ?_;refine R 4 ?_;refine R 5 ?_;refine R 6 ?_;refine R 7 ?_;refine R 8 ?_;refine R 9 ?_;refine R 10 ?_;refine R 11 ?_;refine R 12 ?_;refine R 13 ?_;refine R 14 ?_;refine R 15 ?_;refine R 16 ?_;refine R 17 ?_;refine R 18 ?_;refine R 19 ?_;refine R 20 ?_;refine rd 21 fun aj W=>?_
  (try simp only[bf,bg,bh]);go_simp;go_at_call 55;refine(tg _ (Below.drew (ax _ _))).mono ?_;rintro e w2 ⟨⟨_,rfl⟩,⟨awQ,NY⟩,bH⟩
  replace bH:Below C az w2:=(Below.drew (ax C az)).trans bH
  go_wp2_with fail
  refine W.out _ _ (by first | assumption | exact⟨c0,gq,cy,Qb⟩ | exact⟨NY.c0,(bH.cell (p:=⟨E,0,none⟩) FK).trans gq,(bH.cell (p:=⟨E,1,none⟩) FK).trans cy,(bH.cell (p:=⟨bG,ck+i*2,none⟩) Ru).trans Qb⟩) (fun oC=>?_);clear W aj;try simp only[Act.put,mP,mh,mi]
  refine gn (by kernel_rfl) ?_ _;refine j8 ?_
  )
  go_wp2;(try simp only[Exit.inBlock,Exit.then]);refine bodyPost_ret (results_none rfl _ _ _) rfl ?_;refine⟨⟨_,rfl⟩,?_,(ir.mono eu).trans bH⟩;rw[Nb.out];exact⟨awQ,NY⟩
 ·obtain⟨i,hi⟩:=cf (v - first);have qW:i<G.ands.length:=by omega
  obtain⟨d,U⟩:=bS qW;obtain⟨bG,ck,bQ,gK,cx⟩:=GR.a.el U;obtain⟨HM,MX⟩:=d;have Ru:bG<C:=by omega
  have bO:=ch.ands i _ U;rw[<-CU.out] at bO;simp only at bO;have Nb:xI G v s=j5 (MX.toNat / 2) (j5 (HM.toNat / 2) s):=by
   unfold xI;rw[if_neg (by have:=CU.out;omega),<-CU.out,<-hi,U]
  have T2:Hid (∀B,V az B->Calls Tryz.prog 55 #[.pointer (some ⟨bl,0,none⟩),.int .i64 HM] B fun e bs=>(∃x,e = .returned x)∧(∃kk,jP C bs bl E g n (j5 (HM.toNat / 2) s) kk)∧Below C B bs):=fun B aV=>Om C B bl E g n s jv (uf.to aV) (by have:=aV.size;omega) qT HM _ bO.1.1 rfl (by omega) (by omega)
  have T3:Hid (∀B kk,jP C B bl E g n (j5 (HM.toNat / 2) s) kk->C<=B.heap.size->Calls Tryz.prog 55 #[.pointer (some ⟨bl,0,none⟩),.int .i64 MX] B fun e bs=>(∃x,e = .returned x)∧(∃kk,jP C bs bl E g n (j5 (MX.toNat / 2) (j5 (HM.toNat / 2) s)) kk)∧Below C B bs):=fun B kk bA H7=>Om C B bl E g n _ kk bA H7 qT MX _ bO.2.1 rfl (by omega) (arz (by omega))
  have c0:=uf.c0;have eX:=C7.c2;rw[bQ] at eX;have ru:az.cell? ⟨bG,ck+i*2,none⟩=some (.int .i64 HM):=cx 0 _ rfl;have un:az.cell? ⟨bG,ck+i*2+1,none⟩=some (.int .i64 MX):=cx 1 _ rfl;have WD:¬(v:Int)<(first:Int):=by omega
  have aS:IntKind.i64.wrap ((v:Int) - (first:Int))=(i:Int):=by rw[mj _ (by omega) (by omega)];omega
  have KF:(i:Int)<(G.ands.length:Int):=by omega
  change Hid _ at Nb
  clear cx bQ U hi gK bO C7 GR;go_wp2_with fail
  go_at_call 55;refine(T2 _ (ax _ _)).mono ?_;rintro e w1 ⟨⟨_,rfl⟩,⟨aAz,Wu⟩,hR⟩;have jQ:=Wu.c0;have IU:=(hR.cell (p:=⟨E,2,none⟩) FK).trans eX;have axE:=(hR.cell (p:=⟨bG,ck+i*2+1,none⟩) Ru).trans un;have zl:=hR.size
  change Hid _ at Wu hR
  clear c0 eX ru un;go_wp2_with fail
  go_at_call 55;refine(T3 _ _ Wu (by omega)).mono ?_;rintro e w2 ⟨⟨_,rfl⟩,NY,bH⟩;go_wp2
  go_end0
  refine⟨⟨_,rfl⟩,?_,((ir.mono eu).trans hR.out).trans bH⟩;rw[Nb.out];exact NY
def AM (bm:Nat->Nat) (n k:Nat):List Nat:=(List.range k).map (bm)++List.replicate (n - k) 0
theorem asx (bm:Nat->Nat) (n k:Nat) (h:k<=n):(AM bm n k).length=n:=by unfold AM;simp;omega
theorem asy (bm:Nat->Nat) (n k:Nat) (h:k<n):(AM bm n k).set k (bm k)=AM bm n (k+1):=by
 unfold AM;rw[show n - k=(n - (k+1))+1 by omega,List.replicate_succ,List.range_succ,g1]
 have:=Lv ((List.range k).map (bm)) 0 (bm k) (List.replicate (n - (k+1)) 0)
 rw[lb,List.length_range] at this;rw[this];simp
theorem asw (bm:Nat->Nat) (n:Nat):AM bm n n=(List.range n).map (bm):=by unfold AM;simp
theorem aqU (n:Nat):(madeCells (Value.int .i64 0).cells (n*1)).toList=(List.replicate n 0).map xH:=by
 rw[Nat.mul_one];apply List.ext_getElem?;intro i;by_cases h:i<n
 ·simp[madeCells,Value.cells,xH,h,Nat.mod_one]
 ·simp[madeCells,Value.cells,xH,h]
theorem Sg (w:World) (ab hc nB n:Nat) (bm:Nat->Nat) (q:w.cell? ⟨ab,0,none⟩=some (.slice (some ⟨hc,0,none⟩) n nB)) (ag:n<=100000000) (jp:∀v,v<n->w.cell? ⟨hc,v,none⟩=some (.int .i64 (bm v:Nat))∧bm v<=100000000) (l:Int) (aI:0<=l) (F:l<2*(n:Int)) :
  Calls Tryz.prog 84 #[.int .i64 l,.pointer (some ⟨ab,0,none⟩)] w fun e B=>e = .returned (.int .i64 (je bm l))∧B=w:=by
 obtain⟨v,L⟩:=cf (l.toNat / 2);have rL:v<n:=by omega
 obtain⟨axA,fG⟩:=jp v rL;have ko:je bm l=2*(bm v:Nat)+l%2:=by rw[L];rfl
 rw[ko];have cy:Int.tdiv l 2=(v:Int):=by rw[Int.tdiv_eq_ediv_of_nonneg aI];omega
 have eX:Int.tmod l 2=l%2:=by rw[Int.tmod_eq_emod_of_nonneg aI]
 have ak:0<=l%2∧l%2<2:=by omega
 generalize bm v=EH at *;generalize l%2=r at *;have WD:(v:Int)<(n:Int):=by omega
 have bp:=bF (v:Int);have aS:IntKind.i64.wrap r=r:=mj _ (by omega) (by omega);have lg:=bF (2*(EH:Int));have l8:=bF (2*(EH:Int)+r);clear L jp ko;go_enter Tryz.func84,Tryz.ntmps84
 go_wp2;go_ret
 exact⟨rfl,rfl⟩
theorem aqn (wc:World) (bm:Nat->Nat) (nd:List Bool) (C n g ab hc:Nat) (fH:wc.cell? ⟨ab,0,none⟩=some (.slice (some ⟨hc,0,none⟩) n n)) (cR:ab<wc.heap.size) (Wa:ab≠hc) (af:g<wc.heap.size) (rE:g≠hc) (ag:n<=100000000) (NL:nd.length=n) (vn:Hid (∀(k:Nat) (b:Bool),nd[k]?=some b->bm (k+1)=bm k+(if b then 1 else 0))) (bP:Hid (∀(i:Nat) (b:Bool),nd[i]?=some b->wc.cell? ⟨g,i,none⟩=some (.bool b))) (TW:Hid (0=bm 0)) (ajB:Hid (∀k,bm k<=100000000)) (a6:Hid (wc.ownsRow C 3 1 (.slice (some ⟨hc,0,none⟩) n n) n ((List.replicate n 0).map xH))) (b9:Act->World->Prop) (eV:Exit->Act->World->Prop) {bX dC en e2 ea ec dL ep cz gy fS eF ex ey cM cA cB cC cD cS cT cH cN cI eo c7 dD dE dF dh dO dP dr dt di dj c8 c9 db dd de df dG dH du cZ c6 dw dx dQ dy dz dI dJ dK dk dl dm dn dR dS dT dU dV dW dX dY dZ d0 d3 d4 d5 d6 d7 d8 ei ed eR eS eT eU fy fA e3 fM fC fD e4 e5 e6 e7 fN fO fP fB fc fd fe ff fg fh fi fj fk eY eZ e0 fJ fK fL fl fm fo fp fq fs ft fu fv fw eH eI eJ eK eL gm f8 f9 ga gb gc gf gu gv hE hj hk hm hn ho hp hq hr ht hu hv hw hd:Value}
  (dM:Hid (∀(B:World) {OE uP rS Cv Cw Gr Gs Lj Lk Ll Gt Gu Gv Cx Cy Cz:Value},B.ownsRow C 3 1 (.slice (some ⟨hc,0,none⟩) n n) n (((List.range n).map (bm)).map xH)∧wc.grownBy B (some hc)->b9 ⟨#[bX,dC,en,.pointer (some ⟨ab,0,none⟩),OE,uP,rS,ec,dL,ep,cz,gy,fS,eF,ex,ey,cM,cA,cB,cC,cD,cS,cT,cH,.slice (some ⟨g,0,none⟩) n n,.int .i64 (n:Int),Cv,Cw,Gr,Gs,Lj,Lk,Ll,Gt,Gu,Gv,Cx,Cy,Cz,di,dj,c8,c9,db,dd,de,df,dG,dH,du,cZ,c6,dw,dx,dQ,dy,dz,dI,dJ,dK,dk,dl,dm,dn,dR,dS,dT,dU,dV,dW,dX,dY,dZ,d0,d3,d4,d5,d6,d7,d8,ei,ed,eR,eS,eT,eU,fy,fA,e3,fM,fC,fD,e4,e5,e6,e7,fN,fO,fP,fB,fc,fd,fe,ff,fg,fh,fi,fj,fk,eY,eZ,e0,fJ,fK,fL,fl,fm,fo,fp,fq,fs,ft,fu,fv,fw,eH,eI,eJ,eK,eL,gm,f8,f9,ga,gb,gc,gf,gu,gv,hE,hj,hk,hm,hn,ho,hp,hq,hr,ht,hu,hv,hw,hd],[]⟩ B)) :
  Code.wp Tryz.prog ((Tryz.f57.body.bind (jh 0)).getD .skip) (Exit.then b9 eV) ⟨#[bX,dC,en,.pointer (some ⟨ab,0,none⟩),.int .i64 0,e2,ea,ec,dL,ep,cz,gy,fS,eF,ex,ey,cM,cA,cB,cC,cD,cS,cT,cH,.slice (some ⟨g,0,none⟩) n n,.int .i64 (n:Int),.int .i64 0,cN,cI,eo,c7,dD,dE,dF,dh,dO,dP,dr,dt,di,dj,c8,c9,db,dd,de,df,dG,dH,du,cZ,c6,dw,dx,dQ,dy,dz,dI,dJ,dK,dk,dl,dm,dn,dR,dS,dT,dU,dV,dW,dX,dY,dZ,d0,d3,d4,d5,d6,d7,d8,ei,ed,eR,eS,eT,eU,fy,fA,e3,fM,fC,fD,e4,e5,e6,e7,fN,fO,fP,fB,fc,fd,fe,ff,fg,fh,fi,fj,fk,eY,eZ,e0,fJ,fK,fL,fl,fm,fo,fp,fq,fs,ft,fu,fv,fw,eH,eI,eJ,eK,eL,gm,f8,f9,ga,gb,gc,gf,gu,gv,hE,hj,hk,hm,hn,ho,hp,hq,hr,ht,hu,hv,hw,hd],[]⟩ wc:=by
 conv=>arg 2;whnf
 go_wp2_with fail
 go_loopw [4,26] (fun au2 aq B=>∃(k:Nat),k<=n∧aq = .int .i64 k∧au2 = .int .i64 (bm k:Nat)∧Hid (B.ownsRow C 3 1 (.slice (some ⟨hc,0,none⟩) n n) n ((AM bm n k).map xH))∧Hid (wc.grownBy B (some hc))) (fun _ aq _=>n - (intOf aq).toNat)
 case atStart=>exact⟨0,cE _,rfl,by rw[<-TW.out];rfl,by show World.ownsRow _ _ _ _ _ _ _;have:=a6.out;unfold AM;simpa using this,qQ _ _⟩
 case round =>
  obtain⟨k,X,rfl,rfl,HOr,cc⟩:=hrel;have XI:=(cc.cell_far ⟨ab,0,none⟩ cR (by simp;omega)).trans fH;by_cases aB:k<n
  ·obtain⟨b,D⟩:∃b,nd[k]?=some b:=bS (by omega);have Ur:wr.cell? ⟨g,k,none⟩=some (.bool b):=(cc.cell_far ⟨g,k,none⟩ af (by simp;omega)).trans (bP k b D);have JW:Hid (bm (k+1)=bm k+(if b then 1 else 0)):=vn k b D;have JX:=K (asy bm n k aB);have fG:=ajB k;generalize bm k=EH at *;have fa:(k:Int)<(n:Int):=by omega
   have bM:=bF ((k:Int)+1);have lg:=bF ((EH:Int)+1);have jt:=HOr.cellAt k (by omega);have h1:=HOr.frozenAt k;have hold:∃i4,wr.cell? ⟨hc,k,none⟩=some i4:=by
    rw[jt];have jR:k<((AM bm n k).map xH).length:=by rw[lb,asx _ _ _ X];exact aB
    exact⟨_,ct jR⟩
   obtain⟨i4,hold⟩:=hold;have eC:=K (HOr.stored k (.int .i64 (EH:Int)));clear jt D;go_upto_region 7 with fail
   generalize xr:World.setCell wr _ _=al;rw[xr] at eC;have i8:Hid (al.ownsRow C 3 1 (.slice (some ⟨hc,0,none⟩) n n) n ((AM bm n (k+1)).map xH)):=by
    have:=eC.1
    rw[show Value.int .i64 (EH:Int)=xH EH from rfl,<-List.map_set,JX.out] at this;exact this
   have aZ:Hid (wc.grownBy al (some hc)):=js cc eC.2;clear xr eC hold h1 HOr cc JX XI Ur;cases b
   ·go_wp2;go_roundw
    case measure=>simp[intOf];omega
    exact⟨k+1,by omega,by simp,by rw[JW.out];simp,i8.out,aZ⟩
   ·go_wp2;go_roundw
    case measure=>simp[intOf];omega
    exact⟨k+1,by omega,by simp,by rw[JW.out];simp,i8.out,aZ⟩
  ·have cQ:¬((k:Int)<(n:Int)):=by omega
   have ou:Hid (wr.ownsRow C 3 1 (.slice (some ⟨hc,0,none⟩) n n) n (((List.range n).map (bm)).map xH)):=by
    have:=HOr.out
    rw[show k=n by omega,asw] at this;exact this
   clear HOr;go_wp2;exact dM _ ⟨ou,cc⟩
theorem aqo (wc:World) (G:eq) (bm:Nat->Nat) (Y n ab D hc nB:Nat) (a:Option Addr) (c:Nat) (fH:wc.cell? ⟨ab,0,none⟩=some (.slice (some ⟨hc,0,none⟩) n nB)) (cR:ab<wc.heap.size) (adO:ab≠D) (bR:Hid (cm Y wc a 1 (G.outs.map j4))) (HU:Y<=wc.heap.size) (acH:Y<=D) (bO:∀z,z∈G.outs->0<=z∧z<2*(n:Int)) (ag:n<=100000000) (aU:G.outs.length<=100000000) (uD:D<wc.heap.size) (It:hc<wc.heap.size) (aem:hc≠D) (jp:Hid (∀v,v<n->wc.cell? ⟨hc,v,none⟩=some (.int .i64 (bm v:Nat))∧bm v<=100000000)) (aJ:wc.cell? ⟨D,3,none⟩=some (.slice none 0 0)) (qs:∀j,wc.frozen? ⟨D,j,none⟩=false) (b9:Act->World->Prop) (eV:Exit->Act->World->Prop) {bX dC en e1 fx e2 ea ep cz gy fS eF ex ey cM cA cB cC cD cS cT cH cW cX cY cN cI eo c7 dD dE dF dh dO dP dr dt di dj c8 c9 db dd de df dG dH du cZ c6 dw dx dQ dy dz dI dJ dK dk dl dm dn dR dS dT dU dV dW dX dY dZ d0 d3 d4 d5 d6 d7 d8 ei ed eR eS eT eU fy fA e3 fM fC fD e4 e5 e6 e7 fN fO fP fB fc fd fe ff fg fh fi fj fk eY eZ e0 fJ fK fL fl fm fo fp fq fs ft fu fv fw eH eI eJ eK eL gm f8 f9 ga gb gc gf hj hk hm hn ho hp hq hr ht hu hv hw hd:Value}
  (dM:Hid (∀(B:World) {yQ Ef Eg Eh Ei Ej Ek El Em Eo Ep Er Es Et:Value},(∃u,B.cell? ⟨D,3,none⟩=some u∧B.ownsRow wc.heap.size 3 1 u G.outs.length ((G.outs.map (je bm)).map vE))∧wc.grownBy B (some D)∧(∀j,j≠3->B.cell? ⟨D,j,none⟩=wc.cell? ⟨D,j,none⟩)∧(∀j,B.frozen? ⟨D,j,none⟩=false)->b9 ⟨#[bX,dC,en,e1,fx,e2,ea,.func (.func 84) #[] #[.pointer (some ⟨ab,0,none⟩)],.pointer (some ⟨D,0,none⟩),ep,cz,gy,fS,eF,yQ,ey,cM,cA,cB,cC,cD,cS,cT,cH,cW,cX,cY,cN,cI,eo,c7,dD,dE,dF,dh,dO,dP,dr,dt,di,dj,c8,c9,db,dd,de,df,dG,dH,du,cZ,c6,dw,dx,dQ,dy,dz,dI,dJ,dK,dk,dl,dm,dn,dR,dS,dT,dU,dV,dW,dX,dY,dZ,d0,d3,d4,d5,d6,d7,d8,ei,ed,eR,eS,eT,eU,fy,fA,e3,fM,fC,fD,e4,e5,e6,e7,fN,fO,fP,fB,fc,fd,fe,ff,fg,fh,fi,fj,fk,eY,eZ,e0,fJ,fK,fL,fl,fm,fo,fp,fq,fs,ft,fu,fv,fw,eH,eI,eJ,eK,eL,gm,f8,f9,ga,gb,gc,gf,.slice a G.outs.length c,.int .i64 (G.outs.length:Int),Ef,Eg,Eh,Ei,Ej,Ek,El,Em,Eo,Ep,Er,Es,Et,hd],[]⟩ B)) :
  Code.wp Tryz.prog ((Tryz.f57.body.bind (jh 6)).getD .skip) (Exit.then b9 eV) ⟨#[bX,dC,en,e1,fx,e2,ea,.func (.func 84) #[] #[.pointer (some ⟨ab,0,none⟩)],.pointer (some ⟨D,0,none⟩),ep,cz,gy,fS,eF,ex,ey,cM,cA,cB,cC,cD,cS,cT,cH,cW,cX,cY,cN,cI,eo,c7,dD,dE,dF,dh,dO,dP,dr,dt,di,dj,c8,c9,db,dd,de,df,dG,dH,du,cZ,c6,dw,dx,dQ,dy,dz,dI,dJ,dK,dk,dl,dm,dn,dR,dS,dT,dU,dV,dW,dX,dY,dZ,d0,d3,d4,d5,d6,d7,d8,ei,ed,eR,eS,eT,eU,fy,fA,e3,fM,fC,fD,e4,e5,e6,e7,fN,fO,fP,fB,fc,fd,fe,ff,fg,fh,fi,fj,fk,eY,eZ,e0,fJ,fK,fL,fl,fm,fo,fp,fq,fs,ft,fu,fv,fw,eH,eI,eJ,eK,eL,gm,f8,f9,ga,gb,gc,gf,.slice a G.outs.length c,.int .i64 (G.outs.length:Int),.int .i64 0,hj,hk,hm,hn,ho,hp,hq,hr,ht,hu,hv,hw,hd],[]⟩ wc:=by
 conv=>arg 2;whnf
 obtain⟨ev,eB,fb,em,b8⟩:=sW
 change Hid _ at eB fb em b8
 go_wp2_with fail
 go_loopw [139] (fun aq B=>∃(k:Nat) (u:Value),k<=G.outs.length∧aq = .int .i64 k∧Hid (B.cell? ⟨D,3,none⟩=some u)∧Hid (B.ownsRow wc.heap.size 3 1 u k (((G.outs.take k).map (je bm)).map vE))∧Hid (wc.grownBy B (some D))∧Hid (∀j,B.frozen? ⟨D,j,none⟩=false)∧Hid (∀j,j≠3->B.cell? ⟨D,j,none⟩=wc.cell? ⟨D,j,none⟩)) (fun aq _=>G.outs.length - (intOf aq).toNat)
 case atStart=>exact⟨0,_,cE _,rfl,aJ,k8 _ _ _ _,qQ _ _,qs,fun _ _=>rfl⟩
 case round =>
  obtain⟨k,u,X,rfl,rk,a6,cc,ch,lN⟩:=hrel;by_cases aB:k<G.outs.length
  ·obtain⟨z,ao⟩:∃z,G.outs[k]?=some z:=bS aB;obtain⟨bG,ck,bQ,gK,cx⟩:=bR.intR ao;subst bQ;have qw:bG<wc.heap.size:=bk gK HU;have c1:wr.cell? ⟨bG,ck+k,none⟩=some (.int .i64 z):=(cc.cell_far _ qw (by simp;omega)).trans cx;have vD:=bO z (bn ao);have gY:=cc.size;have z7:Hid (Calls Tryz.prog 84 #[.int .i64 z,.pointer (some ⟨ab,0,none⟩)] wr.drew fun e B=>e = .returned (.int .i64 (je bm z))∧B=wr.drew) :=
    Sg wr.drew ab hc nB n bm ((cc.cell_far ⟨ab,0,none⟩ cR (by simp;omega)).trans fH) ag (fun v L=>⟨(cc.cell_far ⟨hc,v,none⟩ It (by simp;omega)).trans (jp v L).1,(jp v L).2⟩) z vD.1 vD.2
   have bW:Hid (((G.outs.take (k+1)).map (je bm)).map vE=((G.outs.take k).map (je bm)).map vE++[.int .i64 (je bm z)]):=by
    show _=_;rw[OO ao,g1,g1];rfl
   generalize je bm z=lt at *;have fa:(k:Int)<(G.outs.length:Int):=by omega
   have bM:=bF ((k:Int)+1);have cn:k+1<=maxLen:=by simp only[maxLen];omega
   have cq:(k+1)*8<=140737488355328:=by omega
   have cJ:wc.heap.size<=((wr.alloc (.cells #[.int .i64 lt] 3)).drew).heap.size:=by simp;omega
   have bb:=rk.out;clear cx ao vD;have l2:Hid (∀B,wr.grownBy B u.ownBlock->B.cell? ⟨D,3,none⟩=some u):=fun B af=>(af.cell_far ⟨D,3,none⟩ (by show D<_;omega) (fun e=>by have:=(a6.lt D e.symm).1;omega)).trans bb
   have lQ:Hid (∀B,wr.grownBy B u.ownBlock->∀j,B.frozen? ⟨D,j,none⟩=false):=fun B af j=>(af.frozen_far ⟨D,j,none⟩ (by show D<_;omega) (fun e=>by have:=(a6.lt D e.symm).1;omega)).trans (ch j)
   have yI:(wr.alloc (.cells #[.int .i64 lt] 3)).cell? ⟨D,3,none⟩=some u:=l2 _ (jj _ _ _);go_upto_region 27 with fail
   refine mR ?_;refine ih (S:=(fun _=>True)) (by kernel_rfl) trivial (fun ii=>?_);refine R 0 ?_;refine R 2 ?_;refine R 3 ?_;refine wpAnyH_ready (rs:=[1,4]) (by kernel_rfl) (by simp) ?_;refine j9 (o:=_) rfl (fun aj W=>?_) ?_
   ·(try simp only[bf,bg,bh]);go_simp;refine aQ W trivial fun oC=>?_
    clear W aj;refine rd 4 fun aj W=>?_
    (try simp only[bf,bg,bh]);go_simp;go_at_call 84;refine z7.mono ?_;rintro e w2 ⟨rfl,rfl⟩;go_wp2_with fail
    refine aQ W trivial fun Vg=>?_
    clear W aj;refine rd 5 fun aj W=>?_
    (try simp only[bf,bg,bh]);go_simp;refine aQ W trivial fun Kq=>?_
    clear W aj;refine rd 6 fun aj W=>?_
    refine step_append_lies _ rfl (.tmp 144) (.tmp 148) 22 rfl wc.heap.size 3 ev _ 1 8 Tryz.underlying22 eB fb em b8 rfl (by decide) u k _ rfl (a6.alloc _).drew ⟨wr.heap.size,0,none⟩ 1 1 [.int .i64 lt] rfl rfl (i5 (h8 _ _)) (by simp[Value.oneCell']) (by decide) cn cq cJ _ rfl ?_;intro g cap al bc br aO cj;have aZ:=js (iZ _ _ _) br;have f6:=l2 al aZ;have h0:=lQ al aZ 3;refine aQ W trivial fun Dq=>?_
    clear W aj;refine R 7 ?_;refine rd 8 fun aj W=>?_
    (try simp only[bf,bg,bh]);go_simp;refine aQ W trivial fun acL=>?_
    clear W aj;refine gn (by kernel_rfl) ?_ _;refine j8 ?_;generalize gz:World.setCell al _ _=aH;have n3:Hid (aH.cell? ⟨D,3,none⟩=some (.slice (some ⟨g,0,none⟩) (k+1) cap)):=by rw[<-gz];exact on (h:=f6) ..
    have nH:Hid (∀j,aH.frozen? ⟨D,j,none⟩=false):=by rw[<-gz];exact fun j=>(s6 _ _ _ _).trans (lQ al aZ j)
    have hG:al.grownBy aH (some D):=by rw[<-gz];exact oW _ _ _ _
    have jK:g≠D:=fun e=>by
     rcases aO with h | h
     ·have:=(a6.lt g h).1;omega
     ·simp at h;omega
    have hM:Hid (aH.ownsRow wc.heap.size 3 1 (.slice (some ⟨g,0,none⟩) (k+1) cap) (k+1) (((G.outs.take (k+1)).map (je bm)).map vE)):=by
     have:=bc.kept hG (.inr (fun e=>jK (by cases e;rfl)))
     rw[bW.out];exact this
    have h5:Hid (wc.grownBy aH (some D)):=Al cc aZ hG (fun x J=>(a6.lt x J).1);have rh:Hid (∀j,j≠3->aH.cell? ⟨D,j,none⟩=wc.cell? ⟨D,j,none⟩):=fun j aT=>by
     rw[<-gz];refine(oL (h:=fun e=>aT (by cases e;rfl)) ..).trans ?_;exact(aZ.cell_far ⟨D,j,none⟩ (by show D<_;omega) (fun e=>by have:=(a6.lt D e.symm).1;omega)).trans (lN j aT)
    clear gz hG jK bc br aO cj aZ f6 h0 a6 cc lN rk ch l2 lQ bW bb yI z7;go_wp2;go_roundw
    case measure=>simp[intOf];omega
    exact⟨k+1,_,by omega,by simp,n3.out,hM.out,h5.out,nH.out,rh⟩
   refine j9 (o:=_) rfl (fun aj W=>?_) q6;(try simp only[bf,bg,bh]);go_simp;go_at_call 84;refine z7.mono ?_;rintro e w2 ⟨rfl,rfl⟩;go_wp2_with fail
   refine aQ W trivial fun Vg=>?_
   clear W aj;refine wpAnyH_ready (rs:=[1,5]) (by kernel_rfl) (by simp) ?_;refine j9 (o:=_) rfl (fun aj W=>?_) ?_
   ·(try simp only[bf,bg,bh]);go_simp;refine aQ W trivial fun oC=>?_
    clear W aj;refine rd 5 fun aj W=>?_
    (try simp only[bf,bg,bh]);go_simp;refine aQ W trivial fun Kq=>?_
    clear W aj;refine rd 6 fun aj W=>?_
    refine step_append_lies _ rfl (.tmp 144) (.tmp 148) 22 rfl wc.heap.size 3 ev _ 1 8 Tryz.underlying22 eB fb em b8 rfl (by decide) u k _ rfl (a6.alloc _).drew ⟨wr.heap.size,0,none⟩ 1 1 [.int .i64 lt] rfl rfl (i5 (h8 _ _)) (by simp[Value.oneCell']) (by decide) cn cq cJ _ rfl ?_;intro g cap al bc br aO cj;have aZ:=js (iZ _ _ _) br;have f6:=l2 al aZ;have h0:=lQ al aZ 3;refine aQ W trivial fun Dq=>?_
    clear W aj;refine R 7 ?_;refine rd 8 fun aj W=>?_
    (try simp only[bf,bg,bh]);go_simp;refine aQ W trivial fun acL=>?_
    clear W aj;refine gn (by kernel_rfl) ?_ _;refine j8 ?_;generalize gz:World.setCell al _ _=aH;have n3:Hid (aH.cell? ⟨D,3,none⟩=some (.slice (some ⟨g,0,none⟩) (k+1) cap)):=by rw[<-gz];exact on (h:=f6) ..
    have nH:Hid (∀j,aH.frozen? ⟨D,j,none⟩=false):=by rw[<-gz];exact fun j=>(s6 _ _ _ _).trans (lQ al aZ j)
    have hG:al.grownBy aH (some D):=by rw[<-gz];exact oW _ _ _ _
    have jK:g≠D:=fun e=>by
     rcases aO with h | h
     ·have:=(a6.lt g h).1;omega
     ·simp at h;omega
    have hM:Hid (aH.ownsRow wc.heap.size 3 1 (.slice (some ⟨g,0,none⟩) (k+1) cap) (k+1) (((G.outs.take (k+1)).map (je bm)).map vE)):=by
     have:=bc.kept hG (.inr (fun e=>jK (by cases e;rfl)))
     rw[bW.out];exact this
    have h5:Hid (wc.grownBy aH (some D)):=Al cc aZ hG (fun x J=>(a6.lt x J).1);have rh:Hid (∀j,j≠3->aH.cell? ⟨D,j,none⟩=wc.cell? ⟨D,j,none⟩):=fun j aT=>by
     rw[<-gz];refine(oL (h:=fun e=>aT (by cases e;rfl)) ..).trans ?_;exact(aZ.cell_far ⟨D,j,none⟩ (by show D<_;omega) (fun e=>by have:=(a6.lt D e.symm).1;omega)).trans (lN j aT)
    clear gz hG jK bc br aO cj aZ f6 h0 a6 cc lN rk ch l2 lQ bW bb yI z7;go_wp2;go_roundw
    case measure=>simp[intOf];omega
    exact⟨k+1,_,by omega,by simp,n3.out,hM.out,h5.out,nH.out,rh⟩
   refine j9 (o:=_) rfl (fun aj W=>?_) q6;(try simp only[bf,bg,bh]);go_simp;refine aQ W trivial fun Kq=>?_
   clear W aj;refine rd 1 fun aj W=>?_
   (try simp only[bf,bg,bh]);go_simp;refine aQ W trivial fun oC=>?_
   clear W aj;refine rd 6 fun aj W=>?_
   refine step_append_lies _ rfl (.tmp 144) (.tmp 148) 22 rfl wc.heap.size 3 ev _ 1 8 Tryz.underlying22 eB fb em b8 rfl (by decide) u k _ rfl (a6.alloc _).drew ⟨wr.heap.size,0,none⟩ 1 1 [.int .i64 lt] rfl rfl (i5 (h8 _ _)) (by simp[Value.oneCell']) (by decide) cn cq cJ _ rfl ?_;intro g cap al bc br aO cj;have aZ:=js (iZ _ _ _) br;have f6:=l2 al aZ;have h0:=lQ al aZ 3;refine aQ W trivial fun Dq=>?_
   clear W aj;refine R 7 ?_;refine rd 8 fun aj W=>?_
   (try simp only[bf,bg,bh]);go_simp;refine aQ W trivial fun acL=>?_
   clear W aj;refine gn (by kernel_rfl) ?_ _;refine j8 ?_;generalize gz:World.setCell al _ _=aH;have n3:Hid (aH.cell? ⟨D,3,none⟩=some (.slice (some ⟨g,0,none⟩) (k+1) cap)):=by rw[<-gz];exact on (h:=f6) ..
   have nH:Hid (∀j,aH.frozen? ⟨D,j,none⟩=false):=by rw[<-gz];exact fun j=>(s6 _ _ _ _).trans (lQ al aZ j)
   have hG:al.grownBy aH (some D):=by rw[<-gz];exact oW _ _ _ _
   have jK:g≠D:=fun e=>by
    rcases aO with h | h
    ·have:=(a6.lt g h).1;omega
    ·simp at h;omega
   have hM:Hid (aH.ownsRow wc.heap.size 3 1 (.slice (some ⟨g,0,none⟩) (k+1) cap) (k+1) (((G.outs.take (k+1)).map (je bm)).map vE)):=by
    have:=bc.kept hG (.inr (fun e=>jK (by cases e;rfl)))
    rw[bW.out];exact this
   have h5:Hid (wc.grownBy aH (some D)):=Al cc aZ hG (fun x J=>(a6.lt x J).1);have rh:Hid (∀j,j≠3->aH.cell? ⟨D,j,none⟩=wc.cell? ⟨D,j,none⟩):=fun j aT=>by
    rw[<-gz];refine(oL (h:=fun e=>aT (by cases e;rfl)) ..).trans ?_;exact(aZ.cell_far ⟨D,j,none⟩ (by show D<_;omega) (fun e=>by have:=(a6.lt D e.symm).1;omega)).trans (lN j aT)
   clear gz hG jK bc br aO cj aZ f6 h0 a6 cc lN rk ch l2 lQ bW bb yI z7;go_wp2;go_roundw
   case measure=>simp[intOf];omega
   exact⟨k+1,_,by omega,by simp,n3.out,hM.out,h5.out,nH.out,rh⟩
  ·have cQ:¬((k:Int)<(G.outs.length:Int)):=by omega
   have ou:Hid (wr.ownsRow wc.heap.size 3 1 u G.outs.length ((G.outs.map (je bm)).map vE)):=by
    have:=a6.out
    rw[fQ (by omega),show k=G.outs.length by omega] at this;exact this
   clear a6;go_wp2;exact dM _ ⟨⟨u,rk.out,ou⟩,cc.out,lN.out,ch⟩
end Go.Proofs.YtcbcenfjigcfkaaGreatDoor
