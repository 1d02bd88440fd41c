import Derived.Test.YtcbcenfjigcfkaaGreatDoorK32
import Derived.Test.YtcbcenfjigcfkaaGreatDoorK29
set_option maxRecDepth 100000
set_option maxHeartbeats 40000000
namespace Go.Proofs.YtcbcenfjigcfkaaGreatDoor
open Go.RowKit
theorem ap3 {N:aR} (args:List Int) (h:∀a,a∈args->1<=f2 N a):((args.map fun a=>(f2 N a).toNat).sum:Int)=(cG N args).sum∧args.length<=(args.map fun a=>(f2 N a).toNat).sum:=by
 induction args with
 | nil=>exact⟨rfl,aL _⟩
 | cons a r aA =>
  obtain⟨F,O⟩:=aA (fun b D=>h b (qd _ D));have ad:=h a qe;unfold cG at F ⊢;simp only[List.map_cons,List.sum_cons,List.length_cons]
  constructor
  ·rw[<-F];omega
  ·omega
theorem ap6 (ls:List (List Int)):(lX ls).length=(ls.map List.length).sum:=by
 unfold lX;rw[List.length_flatten,List.map_reverse,List.sum_reverse]
theorem ar7 {first:Nat} {hs:List Z} {ins regs:List (List Int)} {mems:List (List (List Int))} {N:aR} {wl:List (List Int)} {cu:Int->List Bool->Nat} {gI G:List Bool->List Nat} {a9:List Bool->List (List Nat)} (aG:er N=true) (jR:E9 first hs N ins regs mems gI G a9) (Ds:∀(k:Nat) (z:hf),N.mems[k]?=some z->(mems.getD k []).length<=256∧∀w,w∈mems.getD k []->w.length=z.width.toNat) {i:Nat} {d:eO} (U:N.nodes[i]?=some d) (yG:0<=d.num)
  (qW:ins.length=N.ins.length) (md:regs.length=N.regs.length) (rF:mems.length=N.mems.length)
  (ad:∀a,a∈d.args->eD first hs (wl.getD a.toNat []) (f2 N a).toNat (cu a)):T6 first hs ins regs mems d (fW wl d.args):=by
 obtain⟨aY,bO,ay⟩:=ty (uL aG U);have aw:=CH aY;have aB:i<N.nodes.length:=(cr.1 U).1;have aE:∀a,a∈d.args->1<=f2 N a∧f2 N a<=32:=fun a ae=>Jm aG (by have:=bO a ae;omega)
 have N4:ew d.kind≠-2:=fun e=>aY (.inr (.inl e))
 have aU:∀n:Int,ew d.kind=n->0<=n->(d.args.length:Int)=n:=fun n F O=>zy aY F O
 have kB:(fW wl d.args).length=d.args.length:=by unfold fW;simp
 have aO:∀k,k<d.args.length->((fW wl d.args).getD k []).length=(bi (cG N d.args) k).toNat:=fun k X=>by
  have J:d.args[k]?=some d.args[k]:=ct X;unfold fW cG bi;rw[iH,fT,fT,J];exact(ad _ (List.getElem_mem X)).len
 obtain⟨zl,nt⟩:=ap3 d.args (fun a ae=>(aE a ae).1);have Nz:(lX (fW wl d.args)).length=(d.args.map fun a=>(f2 N a).toNat).sum:=by
  rw[ap6];unfold fW;rw[List.map_map]
  congr 1
  exact o8 (fun a ae=>(ad a ae).len)
 have X:d.kind=1∨d.kind=30∨d.kind=31∨d.kind=5∨d.kind=6∨d.kind=8∨d.kind=9∨d.kind=10∨d.kind=11∨d.kind=32∨(12<=d.kind∧d.kind<=21)∨d.kind=22∨d.kind=7:=by
  rcases LJ d.kind with kZ | kZ
  ·omega
  ·exact absurd (by unfold ew;rw[if_neg (by omega),if_neg (by omega),if_neg (by omega),if_neg (by omega),if_neg (by omega)]) N4
 have ej:d.kind≠30->d.kind≠31->d.kind≠32->hX d.kind d.width d.num (cG N d.args)=true:=fun kd lD kq=>by
  unfold lj at ay;rw[if_neg kd,if_neg lD,if_neg kq] at ay;by_cases nK:d.kind=1∨d.kind=5
  ·rw[if_pos nK] at ay;exact ay
  ·rw[if_neg nK] at ay;exact(jN ay).2
 have kD:d.kind=32∨d.kind=5∨d.kind=6∨d.kind=9∨d.kind=10∨d.kind=11∨d.kind=8->d.args.length=1:=fun h=>by
  have:=aU 1 (by unfold ew;rw[if_neg (by omega),if_pos (by omega)]) (by decide)
  omega
 have lI:12<=d.kind∧d.kind<=21->d.args.length=2:=fun h=>by
  have:=aU 2 (by unfold ew;rw[if_neg (by omega),if_neg (by omega),if_pos (by omega)]) (by decide)
  omega
 have zx:d.kind=22->d.args.length=3:=fun h=>by
  have:=aU 3 (by unfold ew;rw[if_neg (by omega),if_neg (by omega),if_neg (by omega),if_pos (by omega)]) (by decide)
  omega
 have eW:d.kind=1∨d.kind=30∨d.kind=31->d.args.length=0:=fun h=>by
  have:=aU 0 (by unfold ew;rw[if_pos (by omega)]) (by decide)
  omega
 have Oe:d.kind=7->0<d.args.length∧((d.args.map fun a=>(f2 N a).toNat).sum:Int)=d.width:=fun h=>by
  have ah:=ej (by omega) (by omega) (by omega);unfold hX at ah;rw[if_neg (by omega),if_pos h] at ah;refine⟨?_,by rw[zl];exact jN ah⟩;rcases Nat.eq_zero_or_pos d.args.length with aI | aI
  ·exact absurd (.inr (.inr (.inr ⟨by unfold ew;rw[if_neg (by omega),if_neg (by omega),if_neg (by omega),if_neg (by omega),if_pos (by omega)],aI⟩))) aY
  ·exact aI
 refine⟨by omega,by omega,fun l hl=>?_,?_,fun h=>?_,fun h=>?_,fun h=>?_,fun h=>by rw[kB];exact kD h,fun h=>?_,fun h=>⟨by rw[kB];exact(Oe h).1,?_⟩,fun h=>by rw[kB];exact zx h,fun h=>?_,fun h=>by rw[kB];exact lI h,fun h Qx U0=>?_⟩
 ·obtain⟨a,ae,rfl⟩:=i6.1 hl;have F:=(ad a ae).len;have O:=aE a ae;exact⟨(ad a ae).inl,by omega,by omega⟩
 ·rw[kB];by_cases Dp:d.kind=7
  ·have:=(Oe Dp).2
   omega
  ·by_cases Kl:d.kind=22
   ·have:=zx Kl;omega
   ·by_cases M6:12<=d.kind∧d.kind<=21
    ·have:=lI M6;omega
    ·by_cases aI:d.kind=1∨d.kind=30∨d.kind=31
     ·have:=eW aI;omega
     ·have:=kD (by omega);omega
 ·unfold lj at ay;rw[if_pos h] at ay;have ay:=(jN ay).1;exact bS (by omega)
 ·unfold lj at ay;rw[if_neg (by omega),if_pos h] at ay;have ay:=(jN ay).1;exact bS (by omega)
 ·unfold lj at ay;rw[if_neg (by omega),if_neg (by omega),if_pos h] at ay;have ay:=jN ay;have J:N.mems[d.num.toNat]?=some (N.mems[d.num.toNat]'(by omega)):=ct (by omega);have e:=ay.2;rw[J] at e;have e:(N.mems[d.num.toNat]'(by omega)).width=d.width:=e;obtain⟨m1,m2,nU,-⟩:=jR.mmN _ _ J;obtain⟨aqT,ae3⟩:=Ds _ _ J;rw[e] at ae3;have jc:mems[d.num.toNat]?=some (mems.getD d.num.toNat []):=by rw[iH,ct (by omega)];rfl
  exact⟨_,jc,m2,aqT,ae3,nU⟩
 ·have ah:=ej (by omega) (by omega) (by omega);unfold hX at ah;rw[if_pos h] at ah;have ah:=jN ah;rw[aO 0 (by have:=kD (by omega);omega)];omega
 ·rw[Nz]
  have:=(Oe h).2
  omega
 ·have ah:=ej (by omega) (by omega) (by omega);unfold hX at ah;rw[if_neg (by omega),if_neg (by omega),if_neg (by omega),if_neg (by omega),if_neg (by omega),if_neg (by omega),if_neg (by omega),if_pos h] at ah;have ah:=jN ah
  have:=zx h
  rw[aO 0 (by omega),aO 1 (by omega),aO 2 (by omega)];omega
 ·have ah:=ej (by omega) (by omega) (by omega)
  have:=lI h
  rw[aO 0 (by omega),aO 1 (by omega)];unfold hX at ah;rw[if_neg (by omega),if_neg (by omega),if_neg (by omega),if_neg (by omega)] at ah;by_cases Qw:d.kind<=17
  ·rw[if_pos (by omega)] at ah;have ah:=jN ah;omega
  ·rw[if_neg (by omega),if_neg (by omega),if_pos (by omega)] at ah;have ah:=jN ah;omega
def mw (N:aR) (need:List Bool) (i:Nat):List Z×List (List Int):=AL (fZ N) (uH N) (tA N) (nV N) N need [] i
theorem Ws (first:Nat):bI first []:=⟨fun i d U=>by simp at U,fun i j d e U=>by simp at U⟩
theorem Kd (N:aR):1<=fZ N:=by unfold fZ;omega
section
variable {Y:Nat} {w:World} {S:dp} {N:aR} {need:List Bool} (aO:eM Y w S N) (aG:er N=true) (gB:lR N need)
theorem IK (aO:eM Y w S N) (aG:er N=true) (gB:lR N need) (i:Nat) (hi:i<=N.nodes.length):PV (fZ N) [] N need (xi N) (t7 N) (ph N) i (Bq N need i) (mw N need i):=by
 refine afs (Kd N) (Ws _) (fun i d U ag a ad=>?_) (fun i d U v0 L=>?_) (fun i d nt n wl U _ g ad=>?_) i hi
 ·have F:=(ty (uL aG U)).2.1 a ad;exact⟨F.1,F.2,gB.args i d U ag a ad⟩
 ·exact Xs aO aG _ _ _ (OM v0 L) U _ (by rw[Ai];exact aL _) (M0 aO aG _ _ _ (OM v0 L) i)
 ·exact Xt (Kd N) g.ok aG ((K0 aG).to g) U (by have:=aO.na d (bn U);omega) ad
theorem args_at (aO:eM Y w S N) (aG:er N=true) (gB:lR N need) {i:Nat} {d:eO} (U:N.nodes[i]?=some d) (ag:need[i]?=some true) (a:Int) (ad:a∈d.args):eD (fZ N) (mw N need i).1 ((mw N need i).2.getD a.toNat []) (f2 N a).toNat (fun v0=>gR (ky N (xi N v0) (t7 N v0) (ph N v0) i) a):=by
 have F:=(ty (uL aG U)).2.1 a ad;exact(IK aO aG gB i (by have:=(cr.1 U).1;omega)).num a F.1 F.2 (gB.args i d U ag a ad)
theorem amB (aO:eM Y w S N) (aG:er N=true) (gB:lR N need) {i:Nat} {d:eO} (U:N.nodes[i]?=some d) (ag:need[i]?=some true):T6 (fZ N) (mw N need i).1 (uH N) (tA N) (nV N) d (fW (mw N need i).2 d.args):=by
 have l9:=IK aO aG gB i (by have:=(cr.1 U).1;omega);refine ar7 aG ((K0 aG).to l9.gd) (fun k z ao=>?_) U (by have:=aO.na d (bn U);omega) ?_ ?_ (Oh _ _) (args_at aO aG gB U ag)
 ·obtain⟨m1,m2,nU,-⟩:=(DZ aG).each k z ao
  have:=(Ok aG (bn ao)).2.2
  exact⟨by omega,fun x J=>(nU x J).2⟩
 ·unfold uH oc;rw[K1,lb]
 ·unfold tA rQ;rw[K1,lb]
theorem agm (aO:eM Y w S N) (aG:er N=true) (gB:lR N need) {i:Nat} {d:eO} (U:N.nodes[i]?=some d) (ag:need[i]?=some true):ci (fZ N) (mw N need i).1 (iM (fZ N) (uH N) (tA N) (nV N) (mw N need i).1 d (fW (mw N need i).2 d.args)) (40*m5 N d - 1) (fun v0=>aP d.width.toNat (lY N (xi N v0) (t7 N v0) (ph N v0) (ky N (xi N v0) (t7 N v0) (ph N v0) i) d)):=by
 have l9:=IK aO aG gB i (by have:=(cr.1 U).1;omega);exact Xt (Kd N) l9.gd.ok aG ((K0 aG).to l9.gd) U (by have:=aO.na d (bn U);omega) (args_at aO aG gB U ag)
theorem afr {i:Nat} {d:eO} (U:N.nodes[i]?=some d):mw N need (i+1)=if need[i]?=some true then ((iM (fZ N) (uH N) (tA N) (nV N) (mw N need i).1 d (fW (mw N need i).2 d.args)).1,(mw N need i).2.set i (iM (fZ N) (uH N) (tA N) (nV N) (mw N need i).1 d (fW (mw N need i).2 d.args)).2) else mw N need i:=by
 show AL (fZ N) (uH N) (tA N) (nV N) N need [] (i+1)=_;rw[AL];simp only[U]
 rfl
theorem asg (aO:eM Y w S N) (aG:er N=true) (gB:lR N need) (j:Nat):∀i,i<=j->j<=N.nodes.length->(mw N need i).1.length<=(mw N need j).1.length:=by
 induction j with
 | zero=>intro i hi _;(obtain rfl:i=0:=by omega);exact aL _
 | succ j aA =>
  intro i hi aT;rcases Nat.lt_or_ge i (j+1) with h | h
  ·refine bL (aA i (by omega) (by omega)) ?_;have U:N.nodes[j]?=some (N.nodes[j]'(by omega)):=ct (by omega);rw[afr U];split
   ·next ag=>exact(agm aO aG gB U ag).gd.len.1
   ·exact aL _
  ·obtain rfl:i=j+1:=by omega
   exact aL _
theorem P2 (aO:eM Y w S N) (aG:er N=true) (gB:lR N need):(∃m,fU (fZ N) (h6 N need).1 (gU N need).1 m)∧fU (fZ N) [] (gU N need).1 (Bq N need N.nodes.length+O2 N N.wrs)∧(∀z,z∈N.wrs->BM (fZ N) (h6 N need).1 N (h6 N need).2 (fun v0=>ky N (xi N v0) (t7 N v0) (ph N v0) N.nodes.length) z)∧xh (fZ N) (h6 N need).1 N (nV N) (ph N):=by
 have a8:=IK aO aG gB N.nodes.length (aL _);have HX:xh (fZ N) (h6 N need).1 N (nV N) (ph N):=⟨(DZ aG).len,(DZ aG).ml,fun k z ao=>by
  obtain⟨n1,mv,og,IJ⟩:=(DZ aG).each k z ao;refine⟨n1,mv,fun x J=>⟨a8.gd.allIn (og x J).1,(og x J).2⟩,fun v0 L=>?_⟩;rw[<-IJ v0 L];exact o8 (fun x J=>a8.gd.vls (og x J).1 L)⟩
 have ej:∀z,z∈N.wrs->BM (fZ N) (h6 N need).1 N (h6 N need).2 (fun v0=>ky N (xi N v0) (t7 N v0) (ph N v0) N.nodes.length) z:=fun z ao=>ah3 aG gB a8 ao
 have av:=SO (Kd N) (fun z ao=>((yN aG).1 z ao).1) N.wrs (h6 N need).1 a8.gd.ok (nV N) (ph N) HX ej;exact⟨⟨_,av.1⟩,a8.gd.trans av.1,ej,HX⟩
theorem GD (aO:eM Y w S N) (aG:er N=true) (gB:lR N need) {a:Int} (aI:0<=a) (F:a<N.nodes.length) (ag:need[a.toNat]?=some true):eD (fZ N) (h6 N need).1 ((h6 N need).2.getD a.toNat []) (f2 N a).toNat (fun v0=>gR (ky N (xi N v0) (t7 N v0) (ph N v0) N.nodes.length) a):=(IK aO aG gB N.nodes.length (aL _)).num a aI F ag
theorem awt (aO:eM Y w S N) (aG:er N=true) (gB:lR N need):(h6 N need).2.length=N.nodes.length:=(IK aO aG gB N.nodes.length (aL _)).len
end
theorem UQ {α β:Type} (f:α->List β) (g:α->Nat) (l:List α) (h:∀x,x∈l->(f x).length=g x):(l.flatMap f).length=(l.map g).sum:=by
 induction l with
 | nil=>rfl
 | cons x l aA=>rw[List.flatMap_cons,jw,h x qe,aA (fun y aF=>h y (qd _ aF)),List.map_cons,List.sum_cons]
section
variable {Y:Nat} {w:World} {S:dp} {N:aR} {need:List Bool} (aO:eM Y w S N) (aG:er N=true) (gB:lR N need)
theorem Sf (aO:eM Y w S N) (aG:er N=true) (gB:lR N need) (k:Nat):(m7 (h6 N need).2 (N.regs.take k)).length=h4 (N.regs.take k):=by
 unfold m7 h4;refine UQ _ _ _ (fun r ak=>?_);have ak:=su ak;obtain⟨a1,a2,a3⟩:=GC ((yN aG).2.1 r ak);rw[Of,(GD aO aG gB a1 a2 (gB.regs r ak)).len,a3]
theorem XA (aO:eM Y w S N) (aG:er N=true) (gB:lR N need) (k:Nat):(rP (h6 N need).2 (N.outs.take k)).length=ki N (N.outs.take k):=by
 unfold rP ki;refine UQ _ _ _ (fun o aY=>?_);have aY:=su aY;obtain⟨iG,hT⟩:=(yN aG).2.2.2 o aY;exact(GD aO aG gB iG hT (gB.outs o aY)).len
theorem UH (aO:eM Y w S N) (aG:er N=true) (gB:lR N need):xh (fZ N) (gU N need).1 N (gU N need).2 (fun v0=>(v3 N (xi N v0) ⟨t7 N v0,ph N v0⟩).m) :=
 (Up (Kd N) (Ws _) aO aG gB (K0 aG) (DZ aG) (fun v0 L=>OM v0 L) (h6 N need) rfl (gU N need) rfl).2.2.2
theorem Xk (aO:eM Y w S N) (aG:er N=true) (gB:lR N need):(sZ (gU N need).2).length=ha N.mems:=by
 have vt:=UH aO aG gB;have DV:∀(ws:List (List (List Int))) (ms:List hf),ws.length=ms.length->(∀(k:Nat) (z:hf),ms[k]?=some z->(ws.getD k []).length=z.words.toNat∧∀x,x∈ws.getD k []->x.length=z.width.toNat)->(sZ ws).length=ha ms:=by
  intro ws ms F h
  induction ms generalizing ws with
  | nil =>
   obtain rfl:ws=[]:=yc F
   rfl
  | cons m ms aA =>
   cases ws with
   | nil=>simp at F
   | cons x ws =>
    have bp:x.length=m.words.toNat:=(h 0 m rfl).1;have aS:∀l,l∈x->l.length=m.width.toNat:=(h 0 m rfl).2
    show(List.flatMap _ (x::ws)).length=_
    rw[List.flatMap_cons,jw,UQ _ (fun _=>m.width.toNat) x (fun l hl=>by rw[Of];exact aS l hl),F9,<-bp]
    have:=aA ws (by simpa using F) (fun k z ao=>by have:=h (k+1) z (by simpa using ao);simpa using this)
    unfold sZ at this;rw[this]
    congr 1
    rw[List.map_const',Yh]
 exact DV _ _ vt.len (fun k z ao=>⟨by have:=(vt.each k z ao).1;omega,fun x J=>((vt.each k z ao).2.2.1 x J).2⟩)
theorem ak9 (aO:eM Y w S N) (aG:er N=true) (gB:lR N need) (yy:hH N.ins<=33554432) (jR:h4 N.regs+ha N.mems<=6000) (l9:ki N N.outs<=60000) (gV:(gU N need).1.length<=1048576):lc (kc N need) (hH N.ins) (fZ N+(gU N need).1.length):=by
 obtain⟨⟨m,af⟩,QC,-,-⟩:=P2 aO aG gB;have vt:=UH aO aG gB;have pq:(kc N need).lats.length=h4 N.regs+ha N.mems:=by
  show(m7 (h6 N need).2 N.regs++sZ (gU N need).2).length=_
  have:=Sf aO aG gB N.regs.length
  rw[fQ (aL _)] at this;rw[jw,this,Xk aO aG gB]
 have oD:(kc N need).outs.length=ki N N.outs:=by
  have:=XA aO aG gB N.outs.length
  rw[fQ (aL _)] at this;exact this
 have VM:jC (kc N need)=fZ N:=by
  show 1+(((hH N.ins:Nat):Int)).toNat+(kc N need).lats.length=_;rw[pq,vg];unfold fZ;omega
 refine⟨rfl,by rw[VM,pq];unfold fZ;omega,by rw[VM];rfl,by unfold fZ;omega,by omega,by omega,fun k d U=>?_,fun z ao=>?_,fun z ao=>?_⟩
 ·have:=QC.ok.low k d U
  rw[VM];omega
 ·have AD:z∈m7 (h6 N need).2 N.regs++sZ (gU N need).2:=ao;have DV:∀(l:List Int) (x:Nat),bt (fZ N) (gU N need).1 l->z∈ju l x->0<=z.next∧z.next<2*((fZ N+(gU N need).1.length:Nat):Int):=fun l x hl WO=>by
   have:z.next∈(ju l x).map eA.next:=List.mem_map_of_mem WO
   rw[aeY] at this
   have:=hl _ this
   unfold bN at this;omega
  rcases o7.1 AD with h | h
  ·obtain⟨r,ak,WP⟩:=List.mem_flatMap.1 h;obtain⟨a1,a2,a3⟩:=GC ((yN aG).2.1 r ak);exact DV _ _ (af.allIn (GD aO aG gB a1 a2 (gB.regs r ak)).inl) WP
  ·obtain⟨ws,hg,O⟩:=List.mem_flatMap.1 h;obtain⟨l,hl,WO⟩:=List.mem_flatMap.1 O;obtain⟨k,X⟩:=List.mem_iff_getElem?.1 hg;obtain⟨y,aF⟩:=bS (l:=N.mems) (k:=k) (by have:=(cr.1 X).1;have:=vt.len;omega);have e:(gU N need).2.getD k []=ws:=by rw[iH,X];rfl
   have:=(vt.each k y aF).2.2.1 l (by rw[e];exact hl)
   exact DV _ _ this.1 WO
 ·have AD:z∈rP (h6 N need).2 N.outs:=ao;obtain⟨o,aY,apN⟩:=List.mem_flatMap.1 AD;obtain⟨iG,hT⟩:=(yN aG).2.2.2 o aY
  have:=af.allIn (GD aO aG gB iG hT (gB.outs o aY)).inl z apN
  unfold bN at this;omega
end
theorem arw {N:aR} (aG:er N=true) {i:Nat} {d:eO} (U:N.nodes[i]?=some d) (yG:0<=d.num):1<=m5 N d:=by
 obtain⟨aY,-,ay⟩:=ty (uL aG U);have aw:=CH aY;have F:1<=d.width.toNat:=by omega
 unfold m5;by_cases kq:d.kind=32
 ·rw[if_pos kq];unfold lj at ay;rw[if_neg (by omega),if_neg (by omega),if_pos kq] at ay;have ay:=jN ay;have J:N.mems[d.num.toNat]?=some (N.mems[d.num.toNat]'(by omega)):=ct (by omega);obtain⟨⟨qa,-⟩,qc,-⟩:=(q1 aG).mem _ (bn J);rw[J];have a1:1<=(N.mems[d.num.toNat]'(by omega)).width.toNat:=by omega
  have a2:1<=(N.mems[d.num.toNat]'(by omega)).words.toNat:=by omega
  exact Nat.mul_le_mul a1 a2
 ·rw[if_neg kq];unfold nx;split
  ·exact Nat.mul_le_mul F F
  ·split <;> omega
theorem auJ {N:aR} (aG:er N=true) (yG:∀d,d∈N.nodes->0<=d.num) (need:List Bool) (i:Nat) (hi:i<=N.nodes.length):Bq N need i+(if i=0 then 0 else 1)<=40*uJ N (N.nodes.take i):=by
 induction i with
 | zero=>simp[Bq]
 | succ i aA =>
  have yy:=aA (by omega);have U:N.nodes[i]?=some (N.nodes[i]'(by omega)):=ct (by omega);have F:=arw aG U (yG _ (List.getElem_mem _));rw[afj U,if_neg (by omega)];generalize N.nodes[i]'(by omega)=d at U F;unfold Bq;simp only[U];have J:(if need[i]?=some true then 40*m5 N d - 1 else 0)<=40*m5 N d - 1:=by split <;> omega
  have aF:Bq N need i<=40*uJ N (N.nodes.take i):=bL (Nat.le_add_right _ _) yy;omega
theorem awO (N:aR) (hL:List jz):O2 N hL<=40*wV N hL:=by
 unfold O2 wV
 induction hL with
 | nil=>simp
 | cons z r aA =>
  simp only[List.map_cons,List.sum_cons];omega
structure i7 (C:Nat) (az w:World) (E M aX hW first:Nat) (hs:List Z) (an:Nat->Prop) (t gx:Nat) (u:Value) (n:Nat) (xs:List Value):Prop where
 gt:bZ C w E M first hs (fun b=>an b∨b=aX∨u.ownBlock=some b)
 kp:f3 C an az w
 ow:w.ownsRow C t gx u n xs
 ap:∀b,an b->b≠aX∧u.ownBlock≠some b
 ne:u.ownBlock≠some aX
 fld:w.cell? ⟨aX,hW,none⟩=some u
 oth:∀j,j≠hW->w.cell? ⟨aX,j,none⟩=az.cell? ⟨aX,j,none⟩
 fz:∀j,w.frozen? ⟨aX,j,none⟩=false
 lt:C<=aX
section
variable {C:Nat} {az w v al:World} {E M aX hW first:Nat} {hs:List Z} {an:Nat->Prop} {t gx:Nat} {u:Value} {n:Nat} {xs:List Value}
theorem i7.here (h:i7 C az w E M aX hW first hs an t gx u n xs):aX<w.heap.size:=(h.gt.ps aX (.inr (.inl rfl))).1
theorem i7.below (h:i7 C az w E M aX hW first hs an t gx u n xs) (D:V w v):i7 C az v E M aX hW first hs an t gx u n xs :=
 ⟨h.gt.to D,h.kp.trans ((h.gt.kp D).less (fun _ D=> .inl D)),mx h.ow D,h.ap,h.ne,(D.cell (p:=⟨aX,hW,none⟩) h.here).trans h.fld,fun j aT=>(D.cell (p:=⟨aX,j,none⟩) h.here).trans (h.oth j aT),fun j=>(D.frozen (p:=⟨aX,j,none⟩) h.here).trans (h.fz j),h.lt⟩
theorem i7.push (h:i7 C az w E M aX hW first hs an t gx u n xs) {g cap m:Nat} {ol:List Value} (aY:al.ownsRow C t gx (.slice (some ⟨g,0,none⟩) m cap) m ol) (af:w.grownBy al u.ownBlock) (aO:u.ownBlock=some g∨g=w.heap.size) (aB:g<al.heap.size) :
  al.cell? ⟨aX,hW,none⟩=some u∧(∀j,al.frozen? ⟨aX,j,none⟩=false)∧(∀b,an b->al.heap[b]?=w.heap[b]?)∧∀aH:World,al.setCell ⟨aX,hW,none⟩ (.slice (some ⟨g,0,none⟩) m cap)=aH->i7 C az aH E M aX hW first hs an t gx (.slice (some ⟨g,0,none⟩) m cap) m ol:=by
 have f0:=h.here;have FX:∀b,an b->al.heap[b]?=w.heap[b]?:=fun b D=>af.block b (h.gt.ps b (.inl D)).1 (fun e=>(h.ap b D).2 e.symm)
 have nM:al.heap[aX]?=w.heap[aX]?:=af.block aX f0 (fun e=>h.ne e.symm);have f6:∀j,al.cell? ⟨aX,j,none⟩=w.cell? ⟨aX,j,none⟩:=fun j=>dA (a:=⟨aX,j,none⟩) nM
 have lh:g≠aX:=by
  rcases aO with e | e
  ·exact fun aS=>h.ne (by rw[<-aS];exact e)
  ·omega
 refine⟨(f6 hW).trans h.fld,fun j=>(World.frozen?_of_block (a:=⟨aX,j,none⟩) nM).trans (h.fz j),FX,fun aH aw=>?_⟩;have rC:al.grownBy aH (some aX):=by rw[<-aw];exact oW _ _ _ _
 have nN:bZ C al E M first hs (fun b=>an b∨b=aX∨u.ownBlock=some b):=by
  cases bb:u.ownBlock with
  | none =>
   rw[bb] at af
   have:=h.gt.to (tw af)
   rw[bb] at this;exact this
  | some z =>
   have F:=h.gt;rw[bb] at af F;exact F.far af (.inr (.inr rfl))
 obtain⟨u1,iv,WC⟩:=h.gt.gt;obtain⟨u0,rI,AC⟩:=nN.gt;have Nt:u.ownBlock≠some E:=fun aS=>(h.gt.ps E (.inr (.inr aS))).2.1 rfl
 have H9:u0=u1:=by
  have bp:=rI.c1;rw[dA (a:=⟨E,1,none⟩) (af.block E iv.lt (fun aS=>Nt aS.symm)),iv.c1] at bp;exact(Option.some.inj bp).symm
 have FL:bZ C al E M first hs (fun b=>an b∨b=aX∨(Value.slice (some ⟨g,0,none⟩) m cap).ownBlock=some b):=by
  refine⟨⟨u0,rI,fun b D e=>?_⟩,nN.ok,nN.lo,nN.len,fun b D=>?_⟩
  ·rcases D with D | D | D
   ·exact AC b (.inl D) e
   ·exact AC b (.inr (.inl D)) e
   ·cases D;rcases aO with bM | bM
    ·exact AC g (.inr (.inr bM)) e
    ·rw[H9] at e
     have:=(iv.ow.lt g e).2
     omega
  ·rcases D with D | D | D
   ·exact nN.ps b (.inl D)
   ·exact nN.ps b (.inr (.inl D))
   ·cases D;refine⟨aB,?_,?_⟩
    ·show g≠E;rcases aO with bM | bM
     ·exact(nN.ps g (.inr (.inr bM))).2.1
     ·have:=iv.lt;omega
    ·show g≠M;rcases aO with bM | bM
     ·exact(nN.ps g (.inr (.inr bM))).2.2
     ·have:=iv.lm;omega
 have H3:∀b,b≠aX->aH.heap[b]?=al.heap[b]?:=fun b D=>by rw[<-aw];exact Below.heap_setCell _ _ _ _ D
 refine⟨FL.far rC (.inr (.inl rfl)),⟨h.kp.below.trans ((jB af h.gt.lo.2.2 (fun z ao=>(h.ow.lt z ao).1)).trans (jB rC FL.lo.2.2 (fun z ao=>by cases ao;exact h.lt))),fun b D=>((H3 b (h.ap b D).1).trans (FX b D)).trans (h.kp.block b D)⟩,aY.kept rC (.inr (fun e=>lh (by cases e;rfl))),fun b D=>⟨(h.ap b D).1,fun e=>?_⟩,fun e=>lh (by cases e;rfl),?_,fun j aT=>?_,fun j=>?_,h.lt⟩
 ·cases e;rcases aO with bM | bM
  ·exact(h.ap g D).2 bM
  ·have:=(h.gt.ps g (.inl D)).1;omega
 ·rw[<-aw];exact on (h:=(f6 hW).trans h.fld) ..
 ·rw[<-aw];exact((oL (h:=fun e=>aT (by injection e with _ aS;exact aS.symm)) ..).trans (f6 j)).trans (h.oth j aT)
 ·rw[<-aw];exact(s6 _ _ _ _).trans ((World.frozen?_of_block (a:=⟨aX,j,none⟩) nM).trans (h.fz j))
theorem i7.other (h:i7 C az w E M aX hW first hs an t gx u n xs) {Qo Yj Bj:Nat} (aT:w.cell? ⟨aX,Qo,none⟩=some (.slice none 0 0)):i7 C w w E M aX Qo first hs (lq an u) Yj Bj (.slice none 0 0) 0 []:=by
 refine⟨h.gt.less (fun b D=>?_),f3.refl _ _ _,k8 _ _ _ _,fun b D=>⟨?_,(fun e=>by cases e)⟩,(fun e=>by cases e),aT,fun _ _=>rfl,h.fz,h.lt⟩
 ·rcases D with (D | D) | D | D
  ·exact .inl D
  ·exact .inr (.inr D)
  ·exact .inr (.inl D)
  ·cases D
 ·rcases D with D | D
  ·exact(h.ap b D).1
  ·exact fun e=>h.ne (by rw[D,e])
end
structure Jt (w:World) (aX:Nat):Prop where
 i:∀j x,w.cell? ⟨aX,j,none⟩=some (.int .i64 x)->j=0
 s:∀j a n c,w.cell? ⟨aX,j,none⟩≠some (.slice (some a) n c)
section
variable {an:Nat->Prop} {w B:World} {aX:Nat}
theorem cv.box {v:Value} {l:List Int} (h:cv an w v l) (af:∀j x,w.cell? ⟨aX,j,none⟩=some (.int .i64 x)->j=0) (X:∀b,an b->b≠aX->B.heap[b]?=w.heap[b]?) (aI:B.cell? ⟨aX,0,none⟩=w.cell? ⟨aX,0,none⟩):cv an B v l:=by
 obtain⟨b,o,c,F,O,aW,cw⟩:=h;refine⟨b,o,c,F,O,aW,fun i x J=>?_⟩;by_cases D:b=aX
 ·subst D;have ar:=cw i x J;have e:=af (o+i) x ar;rw[e] at ar ⊢;exact aI.trans ar
 ·exact(dA (a:=⟨b,o+i,none⟩) (X b aW D)).trans (cw i x J)
theorem ql.box {v:Value} {ws:List (List Int)} (h:ql an w v ws) (cb:ws≠[]) (af:Jt w aX) (X:∀b,an b->b≠aX->B.heap[b]?=w.heap[b]?) (aI:B.cell? ⟨aX,0,none⟩=w.cell? ⟨aX,0,none⟩):ql an B v ws∧∃b o n c,v = .slice (some ⟨b,o,none⟩) n c∧b≠aX:=by
 obtain⟨b,o,c,F,O,aW,cw⟩:=h;have D:b≠aX:=by
  rintro rfl;obtain⟨l,r,rfl⟩:=List.exists_cons_of_ne_nil cb;obtain⟨x,J,bw,kG,mJ,rfl,-⟩:=cw 0 l rfl;exact af.s _ _ _ _ J
 refine⟨⟨b,o,c,F,O,aW,fun i l hl=>?_⟩,b,o,_,c,F,D⟩;obtain⟨x,J,aw⟩:=cw i l hl;exact⟨x,(dA (a:=⟨b,o+i,none⟩) (X b aW D)).trans J,aw.box af.i X aI⟩
theorem qm.box {v:Value} {ws:List (List Int)} (h:qm an w v ws) (af:Jt w aX) (X:∀b,an b->b≠aX->B.heap[b]?=w.heap[b]?) (aI:B.cell? ⟨aX,0,none⟩=w.cell? ⟨aX,0,none⟩):qm an B v ws:=by
 obtain⟨a,c,F,O⟩:=h;refine⟨a,c,F,fun i l hl=>?_⟩;obtain⟨b,o,x,ad,aE,J,aw⟩:=O i l hl;have D:b≠aX:=by
  rintro rfl;obtain⟨bw,kG,mJ,rfl,-⟩:=aw;exact af.s _ _ _ _ J
 exact⟨b,o,x,ad,aE,(dA (a:=⟨b,o+i,none⟩) (X b aE D)).trans J,aw.box af.i X aI⟩
theorem ro.box {v:Value} {ms:List (List (List Int))} (h:ro an w v ms) (cb:∀ws,ws∈ms->ws≠[]) (af:Jt w aX) (X:∀b,an b->b≠aX->B.heap[b]?=w.heap[b]?) (aI:B.cell? ⟨aX,0,none⟩=w.cell? ⟨aX,0,none⟩):ro an B v ms:=by
 obtain⟨a,c,F,O⟩:=h;refine⟨a,c,F,fun i l hl=>?_⟩;obtain⟨b,o,x,ad,aE,J,aw⟩:=O i l hl;have D:b≠aX:=by
  rintro rfl;obtain⟨bw,kG,mJ,rfl,-⟩:=aw;exact af.s _ _ _ _ J
 exact⟨b,o,x,ad,aE,(dA (a:=⟨b,o+i,none⟩) (X b aE D)).trans J,(aw.box (cb l (bn hl)) af X aI).1⟩
theorem wY.box {ai E ab aK:Nat} {ins regs:List (List Int)} {mems:List (List (List Int))} {ws:List (List Int)} (h:wY w ai E ab aK an ins regs mems ws) (cb:∀x,x∈mems->x≠[]) (af:Jt w aX) (f0:ai≠aX) (vB:aK≠aX) (X:∀b,an b->b≠aX->B.heap[b]?=w.heap[b]?) (aI:B.cell? ⟨aX,0,none⟩=w.cell? ⟨aX,0,none⟩):wY B ai E ab aK an ins regs mems ws:=by
 have D:=X ai h.p.1 f0;have ar:∀j,B.cell? ⟨ai,j,none⟩=w.cell? ⟨ai,j,none⟩:=fun j=>dA (a:=⟨ai,j,none⟩) D
 refine⟨(ar 0).trans h.b0,(ar 1).trans h.b1,?_,?_,?_,(ar 5).trans h.b5,fun i l hl ag=>?_,h.p⟩
 ·obtain⟨v,F,O⟩:=h.b2;exact⟨v,(ar 2).trans F,O.box af X aI⟩
 ·obtain⟨v,F,O⟩:=h.b3;exact⟨v,(ar 3).trans F,O.box af X aI⟩
 ·obtain⟨v,F,O⟩:=h.b4;exact⟨v,(ar 4).trans F,O.box cb af X aI⟩
 ·obtain⟨x,F,O⟩:=h.b6 i l hl ag;exact⟨x,(dA (a:=⟨aK,i,none⟩) (X aK h.p.2 vB)).trans F,O.box af.i X aI⟩
end
structure pj (C:Nat) (az w:World) (E M first ai ab aK:Nat) (hs:List Z) (jZ an:Nat->Prop) (ins regs:List (List Int)) (mems:List (List (List Int))) (ws:List (List Int)):Prop where
 gt:bZ C w E M first hs (cK an aK)
 kp:f3 C jZ az w
 sub:∀b,jZ b->an b
 b0:w.cell? ⟨ai,0,none⟩=some (.pointer (some ⟨E,0,none⟩))
 b1:w.cell? ⟨ai,1,none⟩=some (.pointer (some ⟨ab,0,none⟩))
 b2:∃v,w.cell? ⟨ai,2,none⟩=some v∧qm an w v ins
 b3:∃v,w.cell? ⟨ai,3,none⟩=some v∧qm an w v regs
 b4:∃v,w.cell? ⟨ai,4,none⟩=some v∧ro an w v mems
 b5:w.cell? ⟨ai,5,none⟩=some (.slice (some ⟨aK,0,none⟩) ws.length ws.length)
 b6:∀(i:Nat) (l:List Int),ws[i]?=some l->l≠[]->∃x,w.cell? ⟨aK,i,none⟩=some x∧cv an w x l
 ow:∃am,w.ownsRow C 22 1 (.slice (some ⟨aK,0,none⟩) ws.length ws.length) ws.length am
 sl:sv w aK
 nq:¬an aK
 qb:an ai
section
variable {C:Nat} {az w v:World} {E M first ai ab aK:Nat} {hs bA:List Z} {jZ an lB:Nat->Prop} {ins regs:List (List Int)} {mems:List (List (List Int))} {ws:List (List Int)}
theorem pj.bl (h:pj C az w E M first ai ab aK hs jZ an ins regs mems ws):wY w ai E ab aK (cK an aK) ins regs mems ws:=by
 refine⟨h.b0,h.b1,?_,?_,?_,h.b5,fun i l hl ag=>?_,.inl h.qb,.inr rfl⟩
 ·obtain⟨v,F,O⟩:=h.b2;exact⟨v,F,O.more lK⟩
 ·obtain⟨v,F,O⟩:=h.b3;exact⟨v,F,O.more lK⟩
 ·obtain⟨v,F,O⟩:=h.b4;exact⟨v,F,O.more lK⟩
 ·obtain⟨x,F,O⟩:=h.b6 i l hl ag;exact⟨x,F,O.more lK⟩
theorem pj.call (h:pj C az w E M first ai ab aK hs jZ an ins regs mems ws) (rH:∀b,cK an aK b->lB b) (af:bZ C v E M first bA lB) (X:f3 C (cK an aK) w v):pj C az v E M first ai ab aK bA jZ (fun b=>lB b∧b≠aK) ins regs mems ws:=by
 have kW:∀b,an b->v.heap[b]?=w.heap[b]?:=fun b D=>X.block b (.inl D)
 have vB:v.heap[aK]?=w.heap[aK]?:=X.block aK (.inr rfl);have ae:∀b,an b->lB b∧b≠aK:=fun b D=>⟨rH b (.inl D),fun e=>h.nq (e▸D)⟩
 have ar:∀j,v.cell? ⟨ai,j,none⟩=w.cell? ⟨ai,j,none⟩:=fun j=>dA (a:=⟨ai,j,none⟩) (kW ai h.qb)
 refine⟨af.less (fun b D=>?_),h.kp.trans (X.less (fun b D=> .inl (h.sub b D))),fun b D=>ae b (h.sub b D),(ar 0).trans h.b0,(ar 1).trans h.b1,?_,?_,?_,(ar 5).trans h.b5,fun i l hl ag=>?_,?_,h.sl.keep vB,fun D=>D.2 rfl,ae ai h.qb⟩
 ·rcases D with D | D
  ·exact D.1
  ·exact rH b (.inr D)
 ·obtain⟨x,F,O⟩:=h.b2;exact⟨x,(ar 2).trans F,(O.keep kW).more ae⟩
 ·obtain⟨x,F,O⟩:=h.b3;exact⟨x,(ar 3).trans F,(O.keep kW).more ae⟩
 ·obtain⟨x,F,O⟩:=h.b4;exact⟨x,(ar 4).trans F,(O.keep kW).more ae⟩
 ·obtain⟨x,F,O⟩:=h.b6 i l hl ag;exact⟨x,(dA (a:=⟨aK,i,none⟩) vB).trans F,(O.keep kW).more ae⟩
 ·obtain⟨am,F⟩:=h.ow;exact⟨am,zD F vB⟩
theorem pj.cell (h:pj C az w E M first ai ab aK hs jZ an ins regs mems ws) {i:Nat} (hi:i<ws.length):(∃x,w.cell? ⟨aK,i,none⟩=some x)∧w.frozen? ⟨aK,i,none⟩=false:=by
 obtain⟨am,F⟩:=h.ow;obtain⟨x,J⟩:=bS (l:=am) (k:=i) (by have:=F.1;omega);exact⟨⟨x,(K7 F J).1⟩,(K7 F J).2⟩
theorem pj.store (h:pj C az w E M first ai ab aK hs jZ an ins regs mems ws) {i:Nat} {x:Value} {l:List Int} (J:cv (cK an aK) w x l) (cb:l≠[]) (L:w.setCell ⟨aK,i,none⟩ x=v):pj C az v E M first ai ab aK hs jZ an ins regs mems (ws.set i l):=by
 obtain⟨am,F⟩:=h.ow;have ik:=F.stored i x;rw[L] at ik;have sU:cv an w x l:=(h.sl.word J cb).more (fun b D=>D.1.resolve_right D.2);have eu:C<=aK:=(F.lt aK rfl).1;have kW:∀b,an b->v.heap[b]?=w.heap[b]?:=fun b D=>ik.2.block b (h.gt.ps b (.inl D)).1 (fun e=>h.nq (by cases e;exact D))
 have ar:∀j,v.cell? ⟨ai,j,none⟩=w.cell? ⟨ai,j,none⟩:=fun j=>dA (a:=⟨ai,j,none⟩) (kW ai h.qb)
 refine⟨h.gt.far ik.2 (.inr rfl),⟨h.kp.below.trans (jB ik.2 h.gt.lo.2.2 (fun k X=>by cases X;exact eu)),fun b D=>(kW b (h.sub b D)).trans (h.kp.block b D)⟩,h.sub,(ar 0).trans h.b0,(ar 1).trans h.b1,?_,?_,?_,by rw[List.length_set];exact(ar 5).trans h.b5,fun j pw hl ag=>?_,?_,?_,h.nq,h.qb⟩
 ·obtain⟨y,F,O⟩:=h.b2;exact⟨y,(ar 2).trans F,O.keep kW⟩
 ·obtain⟨y,F,O⟩:=h.b3;exact⟨y,(ar 3).trans F,O.keep kW⟩
 ·obtain⟨y,F,O⟩:=h.b4;exact⟨y,(ar 4).trans F,O.keep kW⟩
 ·by_cases Ig:i=j
  ·subst Ig;have qW:i<ws.length:=by have:=(cr.1 hl).1;simpa using this
   rw[t6 qW] at hl;cases hl;obtain⟨⟨y,aF⟩,-⟩:=h.cell qW;exact⟨x,by rw[<-L];exact on (h:=aF) ..,sU.keep kW⟩
  ·rw[ve Ig] at hl;obtain⟨y,aF,aw⟩:=h.b6 j pw hl ag;exact⟨y,by rw[<-L];exact(oL (h:=fun e=>Ig (by injection e with _ aS)) ..).trans aF,aw.keep kW⟩
 ·exact⟨_,by rw[List.length_set];exact ik.1⟩
 ·rw[<-L];exact h.sl.set _ sU.isSl
end
theorem ak5 (C:Nat) (wc:World) (E M first ai ab aK ng n:Nat) (jZ:Nat->Prop) (ins regs:List (List Int)) (mems:List (List (List Int))) (S:dp) (N:aR) (need:List Bool) (ch:Hid (first=fZ N∧ins=uH N∧regs=tA N∧mems=nV N)) (bP:Hid (n=N.nodes.length)) (ag:n<=1048576) (vn:Hid (pj C wc wc E M first ai ab aK [] jZ jZ ins regs mems (List.replicate n []))) (f5:Hid (eM C wc S N)) (kJ:Hid (er N=true)) (G8:Hid (lR N need)) (cy:wc.cell? ⟨ab,1,none⟩=some (.slice S.a1 n S.c1)) (ts:ab<C) (Wk:jZ ng) (y3:Hid (∀(k:Nat) (b:Bool),need[k]?=some b->wc.cell? ⟨ng,k,none⟩=some (.bool b))) (b9:Act->World->Prop) (eV:Exit->Act->World->Prop) (iY:Hid (∀(a:Act) (B:World) (p:Nat),a.defers=[]->1048576<(gU N need).1.length->qG B p 11 0->Below C wc B->eV (.panic [{v:= .iface 73 (.pointer (some ⟨p,0,none⟩)),recovered:=false}]) a B)) {dC en fx e2 ea ec dL ep cz gy fS eF ex ey cM cA cB cC cD cS cT cH cW cX cY cN cI eo c7 dh dO dP dr dt di dj c8 c9 db dd de df dG dH du cZ c6 dw dx dQ dy dz dI dJ dK dk dl dm dn dR dS dT dU dV dW dX dY dZ d0 d3 d4 d5 d6 d7 d8 ei ed eR eS eT eU fy fA e3 fM fC fD e4 e5 e6 e7 fN fO fP fB fc fd fe ff fg fh fi fj fk eY eZ e0 fJ fK fL fl fm fo fp fq fs ft fu fv fw eH eI eJ eK eL gm f8 f9 ga gb gc gf gu gv:Value}
  (dM:Hid (∀(B:World) {uP rS Gt Gu Gv Cx Cy Cz Gw Gy Lm Ln Lo Lp Lq Lr Ls Lt Lu XU XV XW XX:Value},(∃an,pj C wc B E M first ai ab aK (h6 N need).1 jZ an ins regs mems (h6 N need).2)->b9 ⟨#[.pointer (some ⟨ab,0,none⟩),dC,en,.pointer (some ⟨ai,0,none⟩),fx,uP,rS,ec,dL,ep,cz,gy,fS,eF,ex,ey,cM,cA,cB,cC,cD,cS,cT,cH,cW,cX,cY,cN,cI,eo,c7,.slice (some ⟨ng,0,none⟩) n n,.int .i64 n,Gt,Gu,Gv,Cx,Cy,Cz,Gw,Gy,Lm,Ln,Lo,Lp,Lq,Lr,Ls,Lt,Lu,XU,XV,XW,XX,dQ,dy,dz,dI,dJ,dK,dk,dl,dm,dn,dR,dS,dT,dU,dV,dW,dX,dY,dZ,d0,d3,d4,d5,d6,d7,d8,ei,ed,eR,eS,eT,eU,fy,fA,e3,fM,fC,fD,e4,e5,e6,e7,fN,fO,fP,fB,fc,fd,fe,ff,fg,fh,fi,fj,fk,eY,eZ,e0,fJ,fK,fL,fl,fm,fo,fp,fq,fs,ft,fu,fv,fw,eH,eI,eJ,eK,eL,gm,f8,f9,ga,gb,gc,gf,gu,gv],[]⟩ B)) :
  Code.wp Tryz.prog ((Tryz.f27.body.bind (jh 0)).getD .skip) (Exit.then b9 eV) ⟨#[.pointer (some ⟨ab,0,none⟩),dC,en,.pointer (some ⟨ai,0,none⟩),fx,e2,ea,ec,dL,ep,cz,gy,fS,eF,ex,ey,cM,cA,cB,cC,cD,cS,cT,cH,cW,cX,cY,cN,cI,eo,c7,.slice (some ⟨ng,0,none⟩) n n,.int .i64 n,.int .i64 0,dh,dO,dP,dr,dt,di,dj,c8,c9,db,dd,de,df,dG,dH,du,cZ,c6,dw,dx,dQ,dy,dz,dI,dJ,dK,dk,dl,dm,dn,dR,dS,dT,dU,dV,dW,dX,dY,dZ,d0,d3,d4,d5,d6,d7,d8,ei,ed,eR,eS,eT,eU,fy,fA,e3,fM,fC,fD,e4,e5,e6,e7,fN,fO,fP,fB,fc,fd,fe,ff,fg,fh,fi,fj,fk,eY,eZ,e0,fJ,fK,fL,fl,fm,fo,fp,fq,fs,ft,fu,fv,fw,eH,eI,eJ,eK,eL,gm,f8,f9,ga,gb,gc,gf,gu,gv],[]⟩ wc:=by
 conv=>arg 2;whnf
 generalize lF:S.c1=c1 at *;generalize ux:S.a1=a1 at *
 change Hid _ at ux
 clear lF;have ajG:Hid (C<=aK):=by obtain⟨am,F⟩:=vn.ow;exact(F.lt aK rfl).1
 have ai2:Hid (∀i,i<=n->(mw N need i).1.length<=(gU N need).1.length):=fun i hi=>by
  have F:=asg f5 kJ G8 N.nodes.length i (by have:=bP.out;omega) (aL _);obtain⟨⟨m,af⟩,-⟩:=P2 f5 kJ G8;exact bL F af.len.1
 go_wp2_with fail
 go_loopw [33] (fun aq B=>∃(k:Nat) (an:Nat->Prop),k<=n∧aq = .int .i64 k∧Hid (pj C wc B E M first ai ab aK (mw N need k).1 jZ an ins regs mems (mw N need k).2)) (fun aq _=>n - (intOf aq).toNat)
 case atStart=>exact⟨0,jZ,cE _,rfl,by have e:=vn.out;rw[bP.out] at e;exact e⟩
 case round =>
  clear vn;obtain⟨k,an,X,rfl,qK⟩:=hrel;by_cases aB:k<n
  ·obtain⟨d,U⟩:=bS (l:=N.nodes) (k:=k) (by have:=bP.out;omega);obtain⟨b,D⟩:=bS (l:=need) (k:=k) (by rw[G8.len];have:=bP.out;omega);have jE:=afr (need:=need) U;have a7:wr.cell? ⟨ng,k,none⟩=some (.bool b):=(dA (a:=⟨ng,k,none⟩) (qK.kp.block ng Wk)).trans (y3 k b D);have fa:(k:Int)<(n:Int):=by omega
   have bM:=bF ((k:Int)+1);cases b
   ·have BD:Hid (pj C wc wr E M first ai ab aK (mw N need (k+1)).1 jZ an ins regs mems (mw N need (k+1)).2):=by
     show pj _ _ _ _ _ _ _ _ _ _ _ _ _ _ _ _;rw[jE,if_neg (by rw[D];simp)];exact qK
    clear jE D qK U;go_wp2;go_roundw
    case measure=>simp[intOf];omega
    exact⟨k+1,an,by omega,by simp,BD⟩
   ·rw[if_pos D] at jE;have ik:=agm f5 kJ G8 U D;have ej:=amB f5 kJ G8 U D;have fG:=ai2 (k+1) (by omega);rw[jE] at fG;have H1:∀a,a∈d.args->0<=a∧∃l,(mw N need k).2[a.toNat]?=some l∧l≠[]:=fun a ad=>by
     have F:=(ty (uL kJ U)).2.1 a ad;have O:=args_at f5 kJ G8 U D a ad;have aW:=Jm kJ (a:=a) (by have:=bP.out;omega);have cb:(mw N need k).2.getD a.toNat []≠[]:=fun e=>by have:=O.len;rw[e] at this;simp at this;omega
     exact⟨F.1,_,Kk cb,cb⟩
    have cb:(iM (fZ N) (uH N) (tA N) (nV N) (mw N need k).1 d (fW (mw N need k).2 d.args)).2≠[]:=fun e=>by
     obtain⟨v0,L⟩:=uq (Kd N);have F:=ik.len L;have O:=CH (ty (uL kJ U)).1;rw[e,rT] at F;simp at F;omega
    obtain⟨ef,iL,qT,KB⟩:=ch.out;rw[<-ef,<-iL,<-qT,<-KB] at jE ik ej fG cb;obtain⟨bG,ck,bQ,gK,cx⟩:=f5.n.el U;have NM:=f5.na d (bn U);have ai6:Hid (oR C wc N bG (ck+k*4) d):=⟨gK,fun j v L=>cx j v L,NM.1,NM.2.2.2,NM.2.1,NM.2.2.1⟩
    rw[ux.out] at bQ;subst bQ;have mM:(mw N need k).2.length=n:=by have:=(IK f5 kJ G8 k (by have:=bP.out;omega)).len;have:=bP.out;omega
    generalize Rx:mw N need k=hb at *;have abr:Hid (∀u,V wr u->Calls Tryz.prog 52 #[.pointer (some ⟨ai,0,none⟩),.pointer (some ⟨bG,ck+k*4,none⟩)] u (gD C u E M first (cK an aK) (iM first ins regs mems hb.1 d (fW hb.2 d.args)))):=fun u bb =>
     awr C u E M first hb.1 (cK an aK) (qK.gt.to bb) ai ab aK bG (ck+k*4) ins regs mems hb.2 N d (qK.bl.keep (qK.gt.kp bb).block) (ai6.to (qK.kp.below.trans (bb.mono qK.gt.lo.2.2))) ej H1
    have Pq:Hid (k<hb.2.length):=by show k<_;rw[mM];exact aB
    have b5:=qK.b5;rw[mM] at b5;have D4:=(qK.kp.below.cell (p:=⟨ab,1,none⟩) ts).trans cy;have hx:wr.cell? ⟨ai,5,none⟩=some (.slice (some ⟨aK,0,none⟩) n n)∧wr.cell? ⟨ab,1,none⟩=some (.slice (some ⟨bG,ck,none⟩) n c1):=⟨b5,D4⟩
    have aaF:Hid (∀B:World,f3 C (cK an aK) wr B->B.cell? ⟨ai,5,none⟩=some (.slice (some ⟨aK,0,none⟩) n n)∧B.cell? ⟨ab,1,none⟩=some (.slice (some ⟨bG,ck,none⟩) n c1)):=fun B ma=>⟨(dA (a:=⟨ai,5,none⟩) (ma.block ai (.inl qK.qb))).trans b5,(ma.below.cell (p:=⟨ab,1,none⟩) ts).trans D4⟩
    have MA:Hid (aK≠ai∧aK≠ab):=⟨fun e=>qK.nq (e▸qK.qb),by have:=ajG.out;omega⟩
    change Hid _ at fG jE cb
    clear ik ej H1 cx NM mM Rx U D ef iL qT KB b5 D4;go_upto_region 8 with fail
    clear a7;refine nW ?_;refine ih (S:=(fun B=>B.cell? ⟨ai,5,none⟩=some (.slice (some ⟨aK,0,none⟩) n n)∧B.cell? ⟨ab,1,none⟩=some (.slice (some ⟨bG,ck,none⟩) n c1))) (by kernel_rfl) (by exact hx) (fun ii=>?_);refine R 0 ?_;refine R 1 ?_;refine R 2 ?_;refine R 3 ?_;refine R 4 ?_;refine R 5 ?_;refine R 6 ?_;refine R 7 ?_;refine R 8 ?_;refine R 9 ?_;refine R 10 ?_;refine R 11 ?_;refine rd 12 fun aj W=>?_
    (try simp only[bf,bg,bh]);go_simp;go_at_call 52;refine(abr _ b7).mono ?_;rintro e w3 (⟨ae,ah9,lB,rfl,aJ,af,bz,dg⟩ | ⟨ae,⟨O6,rfl,bq⟩,D⟩);rotate_left
    ·have bd:=K (show _∧_∧_ from ⟨bk ae fG,bq,qK.kp.below.trans (qn qK.gt b7 D)⟩);clear ae bq D;unfold fI;go_wp2_with fail
     refine gN.panic (fun eP f7=>?_);have iO:Hid (eP.defers=[]):=f7;clear f7;go_wp2;exact iY _ _ _ iO bd.1 bd.2.1 bd.2.2
    have vm:=K (qx qK.gt b7 bz);have Tu:=K (qK.call aJ af vm);have J1:Hid (cv (cK (fun b=>lB b∧b≠aK) aK) w3 ah9 (iM first ins regs mems hb.1 d (fW hb.2 d.args)).2):=dg.more (fun b D=>by
     by_cases e:b=aK
     ·exact .inr e
     ·exact .inl ⟨D,e⟩)
    obtain⟨⟨i4,hold⟩,h1⟩:=Tu.cell (i:=k) Pq.out;have xq:=aaF w3 vm;obtain⟨y9,Cq,sH,rfl,-,-,-⟩:=dg;clear ae af bz aJ;go_wp2_with fail
    refine aQ W (by exact xq) fun kz=>?_
    clear W aj;refine R 13 ?_;refine rd 14 fun aj W=>?_
    (try simp only[bf,bg,bh]);go_simp;refine aQ W (by exact⟨(ce w3 ⟨aK,k,none⟩ ⟨ai,5,none⟩ _ MA.1).trans xq.1,(ce w3 ⟨aK,k,none⟩ ⟨ab,1,none⟩ _ MA.2).trans xq.2⟩) fun Dr=>?_
    clear W aj;refine gn (by kernel_rfl) ?_ _;refine gN.normal ?_;generalize av:World.setCell w3 _ _=f1;have Z3:=K (Tu.store J1 cb av);have BD:Hid (pj C wc f1 E M first ai ab aK (mw N need (k+1)).1 jZ (fun b=>lB b∧b≠aK) ins regs mems (mw N need (k+1)).2):=by
     show pj _ _ _ _ _ _ _ _ _ _ _ _ _ _ _ _;rw[jE.out];exact Z3
    clear av hold h1 Tu Z3 J1 vm qK abr xq hx aaF;go_wp2;go_roundw
    case measure=>simp[intOf];omega
    exact⟨k+1,_,by omega,by simp,BD⟩
  ·have cQ:¬((k:Int)<(n:Int)):=by omega
   have ou:Hid (pj C wc wr E M first ai ab aK (h6 N need).1 jZ an ins regs mems (h6 N need).2):=by
    have e:=qK.out;rw[show k=N.nodes.length by have:=bP.out;omega] at e;exact e
   clear qK;go_wp2;exact dM _ ⟨_,ou⟩
end Go.Proofs.YtcbcenfjigcfkaaGreatDoor
