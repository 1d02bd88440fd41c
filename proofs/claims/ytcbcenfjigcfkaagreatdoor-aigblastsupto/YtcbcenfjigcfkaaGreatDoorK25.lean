import Derived.Test.YtcbcenfjigcfkaaGreatDoorK24
import Derived.Deep.DeepAppendWide
set_option maxRecDepth 100000
set_option maxHeartbeats 40000000
namespace Go.Proofs.YtcbcenfjigcfkaaGreatDoor
open Go.RowKit
theorem auB (a b:List Nat) (k y:Nat) (ad:a.length=k) (D:k<b.length):((a++b.drop k).map ib).set k (.int .u64 (y:Int))=(a++[y]++b.drop (k+1)).map ib:=by
 have:=Lv (a.map ib) (ib b[k]) (.int .u64 (y:Int)) ((b.drop (k+1)).map ib)
 rw[lb,ad] at this;rw[List.drop_eq_getElem_cons D,g1,List.map_cons,this,g1,g1,List.append_assoc]
 rfl
theorem asj (wc:World) (N:aR) (C eh:Nat) (zd:C<=wc.heap.size) (a2:Option Addr) (c2:Nat) (eX:wc.cell? ⟨eh,2,none⟩=some (.slice a2 N.regs.length c2)) (uE:eh<C) (bR:Hid (cm C wc a2 3 (N.regs.map l4.cells))) (r:Value) (regs:List Nat) (md:regs.length=N.regs.length) (w9:Hid (wc.ownsRow C 32 1 r N.regs.length (regs.map ib))) (am:List Nat) (gs iW gJ:Nat) (o1:gs<wc.heap.size) (Wt:r.ownBlock≠some gs) (jq:Hid (∀(i x:Nat),am[i]?=some x->wc.cell? ⟨gs,iW+i,none⟩=some (.int .u64 (x:Int)))) (bO:∀z,z∈N.regs->0<=z.next∧z.next<(am.length:Int)) (aU:N.regs.length<17592186044416) (b9:Act->World->Prop) (eV:Exit->Act->World->Prop) {bX dC e1 fx ea ec dL ep cz fS eF ey cM cA cB cC cD cS cT cH cW cX cY cN cI eo c7 dD dE dF dh dO dP dr dt di dj c8 c9 db dd de df dG dH du cZ c6 dw dx dQ dy dz dI dJ dK dk dl dm dn dR dS dT dU dV dW dX dY dZ d0 d3 d4 d5 d6 d7 d8 ei ed eR eS eT eU fy fA e3 fM fC fD e4 e5 e6 e7 fN fO fP fB fc fd fe ff fg fh fi fj fk eY eZ e0 fJ fK fL fl fm fo fp fq fs ft fu fv fw eH eI eJ eK eL gm f8 f9 ga gb gc gf gu gv hE hj hk hm hn ho hp hq hr ht hu hv hw hd iy iz ig:Value}
  (dM:Hid (∀(B:World) {yQ Bl Bm Eu Ev Jd Ew Ex Ey Ez EA EB EC Bn Bo AQ AR AU AV AW:Value},(B.ownsRow C 32 1 r N.regs.length ((N.regs.map fun z=>gR am z.next).map ib)∧wc.grownBy B r.ownBlock)->b9 ⟨#[bX,dC,.pointer (some ⟨eh,0,none⟩),e1,fx,r,ea,ec,dL,ep,cz,.slice (some ⟨gs,iW,none⟩) am.length gJ,fS,eF,yQ,ey,cM,cA,cB,cC,cD,cS,cT,cH,cW,cX,cY,cN,cI,eo,c7,dD,dE,dF,dh,dO,dP,dr,dt,di,dj,c8,c9,db,dd,de,df,dG,dH,du,cZ,c6,dw,dx,dQ,dy,dz,dI,dJ,dK,dk,dl,dm,dn,dR,dS,dT,dU,dV,dW,dX,dY,dZ,d0,d3,d4,d5,d6,d7,d8,ei,ed,eR,eS,eT,eU,Bl,Bm,Eu,Ev,Jd,Ew,Ex,Ey,Ez,EA,EB,EC,Bn,Bo,AQ,AR,AU,AV,AW,fh,fi,fj,fk,eY,eZ,e0,fJ,fK,fL,fl,fm,fo,fp,fq,fs,ft,fu,fv,fw,eH,eI,eJ,eK,eL,gm,f8,f9,ga,gb,gc,gf,gu,gv,hE,hj,hk,hm,hn,ho,hp,hq,hr,ht,hu,hv,hw,hd,iy,iz,ig],[]⟩ B)) :
  Code.wp Tryz.prog ((Tryz.f15.body.bind (jh 8)).getD .skip) (Exit.then b9 eV) ⟨#[bX,dC,.pointer (some ⟨eh,0,none⟩),e1,fx,r,ea,ec,dL,ep,cz,.slice (some ⟨gs,iW,none⟩) am.length gJ,fS,eF,.int .i64 0,ey,cM,cA,cB,cC,cD,cS,cT,cH,cW,cX,cY,cN,cI,eo,c7,dD,dE,dF,dh,dO,dP,dr,dt,di,dj,c8,c9,db,dd,de,df,dG,dH,du,cZ,c6,dw,dx,dQ,dy,dz,dI,dJ,dK,dk,dl,dm,dn,dR,dS,dT,dU,dV,dW,dX,dY,dZ,d0,d3,d4,d5,d6,d7,d8,ei,ed,eR,eS,eT,eU,fy,fA,e3,fM,fC,fD,e4,e5,e6,e7,fN,fO,fP,fB,fc,fd,fe,ff,fg,fh,fi,fj,fk,eY,eZ,e0,fJ,fK,fL,fl,fm,fo,fp,fq,fs,ft,fu,fv,fw,eH,eI,eJ,eK,eL,gm,f8,f9,ga,gb,gc,gf,gu,gv,hE,hj,hk,hm,hn,ho,hp,hq,hr,ht,hu,hv,hw,hd,iy,iz,ig],[]⟩ wc:=by
 conv=>arg 2;whnf
 have eu:=zd;have gC:Hid (∀k,r.ownBlock=some k->C<=k):=fun k X=>(w9.lt k X).1
 rcases w9.2 with ⟨Wo,yF⟩ | ⟨g,cap,hV,rfl,-⟩
 ·subst Wo;go_wp2_with fail
  go_loopw [14] (fun aq B=>∃(k:Nat),k<=N.regs.length∧aq = .int .i64 k∧Hid (B.ownsRow C 32 1 (.slice none 0 0) N.regs.length ((((N.regs.take k).map fun z=>gR am z.next)++regs.drop k).map ib))∧Hid (wc.grownBy B (Value.ownBlock (.slice none 0 0)))) (fun aq _=>N.regs.length - (intOf aq).toNat)
  case atStart=>exact⟨0,cE _,rfl,by show World.ownsRow _ _ _ _ _ _ _;simpa using w9.out,qQ _ _⟩
  case round =>
   obtain⟨k,X,rfl,a6,cc⟩:=hrel;have K8:=(jB cc eu gC).cell (p:=⟨eh,2,none⟩) uE |>.trans eX
   by_cases aB:k<N.regs.length
   ·omega
   ·have cQ:¬((k:Int)<(N.regs.length:Int)):=by omega
    have hM:Hid (wr.ownsRow C 32 1 (.slice none 0 0) N.regs.length ((N.regs.map fun z=>gR am z.next).map ib)):=by
     have:=a6.out
     rw[fQ (by omega),List.drop_eq_nil_of_le (by omega),List.append_nil] at this;exact this
    clear a6;go_wp2;exact dM _ ⟨hM,cc⟩
 ·go_wp2_with fail
  go_loopw [14] (fun aq B=>∃(k:Nat),k<=N.regs.length∧aq = .int .i64 k∧Hid (B.ownsRow C 32 1 (.slice (some ⟨g,0,none⟩) N.regs.length cap) N.regs.length ((((N.regs.take k).map fun z=>gR am z.next)++regs.drop k).map ib))∧Hid (wc.grownBy B (Value.ownBlock (.slice (some ⟨g,0,none⟩) N.regs.length cap)))) (fun aq _=>N.regs.length - (intOf aq).toNat)
  case atStart=>exact⟨0,cE _,rfl,by show World.ownsRow _ _ _ _ _ _ _;simpa using w9.out,qQ _ _⟩
  case round =>
   obtain⟨k,X,rfl,a6,cc⟩:=hrel;have K8:=(jB cc eu gC).cell (p:=⟨eh,2,none⟩) uE |>.trans eX
   by_cases aB:k<N.regs.length
   ·obtain⟨z,ao⟩:∃z,N.regs[k]?=some z:=⟨N.regs[k],ct aB⟩
    obtain⟨bG,ck,bQ,gK,cx⟩:=bR.el ao;have c2:=((jB cc eu gC).cell (p:=⟨bG,ck+k*3+2,none⟩) gK).trans (cx 2 _ rfl);have ak:=bO z (bn ao);obtain⟨y,aF⟩:∃y,am[z.next.toNat]?=some y:=⟨am[z.next.toNat]'(by omega),ct (by omega)⟩
    have un:wr.cell? ⟨gs,iW+z.next.toNat,none⟩=some (.int .u64 (y:Int)):=(dA (w:=wc) (cc.block gs o1 (by intro e;exact Wt (by simpa[Value.ownBlock] using e.symm)))).trans (jq _ y aF);have yu:gR am z.next=y:=by unfold gR;rw[aF];rfl
    rw[bQ] at K8;have jt:=a6.cellAt k (by omega);have h1:=a6.frozenAt k;have hold:∃i4,wr.cell? ⟨g,k,none⟩=some i4:=by
     rw[jt];have jR:k<((((N.regs.take k).map fun z=>gR am z.next)++regs.drop k).map ib).length:=by simp;omega
     exact⟨_,ct jR⟩
    obtain⟨i4,hold⟩:=hold;have eC:=K (a6.stored k (.int .u64 (y:Int)));have bW:Hid (((((N.regs.take k).map fun z=>gR am z.next)++regs.drop k).map ib).set k (.int .u64 (y:Int))=((((N.regs.take (k+1)).map fun z=>gR am z.next)++regs.drop (k+1)).map ib)):=by
     show _=_;have e:((N.regs.take k++[z]).map fun z=>gR am z.next)=((N.regs.take k).map fun z=>gR am z.next)++[y]:=by rw[g1];simp[yu]
     rw[gM _ k z ao,e];exact auB _ _ k y (by simp;omega) (by omega)
    generalize z.next=a at *;obtain⟨qp,ux⟩:=ak;have fa:(k:Int)<(N.regs.length:Int):=by omega
    have bM:=bF ((k:Int)+1);clear cx bQ ao aF yu jt a6;go_wp2;go_roundw
    case measure=>simp[intOf];omega
    exact⟨k+1,by omega,by simp,by show World.ownsRow _ _ _ _ _ _ _;rw[<-bW.out];exact eC.1,js cc eC.2⟩
   ·have cQ:¬((k:Int)<(N.regs.length:Int)):=by omega
    have hM:Hid (wr.ownsRow C 32 1 (.slice (some ⟨g,0,none⟩) N.regs.length cap) N.regs.length ((N.regs.map fun z=>gR am z.next).map ib)):=by
     have:=a6.out
     rw[fQ (by omega),List.drop_eq_nil_of_le (by omega),List.append_nil] at this;exact this
    clear a6;go_wp2;exact dM _ ⟨hM,cc⟩
structure fF where
 b:Nat
 l:List Nat
def fF.val (m:fF):Value:= .slice (some ⟨m.b,0,none⟩) m.l.length m.l.length
structure mG (C:Nat) (w:World) (ms:List fF):Prop where
 own:∀m,m∈ms->w.ownsRow C 32 1 m.val m.l.length (m.l.map ib)
 apart:∀(i j:Nat) (m xJ:fF),ms[i]?=some m->ms[j]?=some xJ->m.b=xJ.b->i=j
structure jy (gQ:List Nat) (w B:World):Prop where
 os:B.os=w.os
 tape:B.tape=w.tape
 output:B.output=w.output
 size:w.heap.size<=B.heap.size
 block:∀k,k<w.heap.size->k∉gQ->B.heap[k]?=w.heap[k]?
theorem jy.refl (gQ:List Nat) (w:World):jy gQ w w:=⟨rfl,rfl,rfl,aL _,fun _ _ _=>rfl⟩
theorem jy.trans {gQ:List Nat} {a b c:World} (h:jy gQ a b) (O:jy gQ b c):jy gQ a c :=
 ⟨O.os.trans h.os,O.tape.trans h.tape,O.output.trans h.output,bL h.size O.size,fun k X ak=>(O.block k (bk X h.size) ak).trans (h.block k X ak)⟩
theorem jy.of_below {gQ:List Nat} {w B:World} (h:V w B):jy gQ w B:=⟨h.os,h.tape,h.output,h.size,fun k X _=>h.block k X⟩
theorem jy.of_grown {gQ:List Nat} {w B:World} {g:Nat} (af:w.grownBy B (some g)) (D:g∈gQ):jy gQ w B:=⟨af.os,af.tape,af.output,af.size,fun k X ak=>af.block k X (by intro e;cases e;exact ak D)⟩
theorem jy.cell {gQ:List Nat} {w B:World} (h:jy gQ w B) {p:Addr} (aE:p.block<w.heap.size) (ag:p.block∉gQ):B.cell? p=w.cell? p:=dA (w:=w) (h.block p.block aE ag)
theorem mG.to {C:Nat} {w B:World} {ms:List fF} (h:mG C w ms) (D:V w B):mG C B ms:=⟨fun m ae=>mx (h.own m ae) D,h.apart⟩
theorem mG.set {C:Nat} {w:World} {ms:List fF} (h:mG C w ms) {i a y:Nat} {m:fF} (ae:ms[i]?=some m) :
  mG C (w.setCell ⟨m.b,a,none⟩ (.int .u64 (y:Int))) (ms.set i ⟨m.b,m.l.set a y⟩)∧w.grownBy (w.setCell ⟨m.b,a,none⟩ (.int .u64 (y:Int))) (some m.b):=by
 have hs:=(h.own m (bn ae)).stored a (.int .u64 (y:Int));have hi:i<ms.length:=(cr.1 ae).1;refine⟨⟨fun xJ DD=>?_,fun j k p atB aE aoX ay=>?_⟩,hs.2⟩
 ·obtain⟨j,aT,rfl⟩:=List.getElem_of_mem DD;rw[List.length_set] at aT;by_cases FP:j=i
  ·subst FP
   have:=hs.1
   rw[List.getElem_set_self];show World.ownsRow _ _ _ _ (Value.slice (some ⟨m.b,0,none⟩) (m.l.set a y).length (m.l.set a y).length) _ _;rw[List.length_set,List.map_set];exact this
  ·rw[List.getElem_set_ne (Ne.symm FP)];refine(h.own ms[j] (List.getElem_mem aT)).kept hs.2 (.inr ?_);show some ms[j].b≠some m.b;intro e;exact FP (h.apart j i ms[j] m (ct aT) ae (Option.some.inj e))
 ·have ab:∀(j:Nat) (p:fF),(ms.set i ⟨m.b,m.l.set a y⟩)[j]?=some p->∃m6,ms[j]?=some m6∧m6.b=p.b:=by
   intro j p aE;by_cases FP:j=i
   ·subst FP;rw[t6 hi] at aE;cases aE;exact⟨m,ae,rfl⟩
   ·rw[ve (Ne.symm FP)] at aE;exact⟨p,aE,rfl⟩
  obtain⟨m6,aI,ko⟩:=ab j p aE;obtain⟨co,F,bp⟩:=ab k atB aoX;exact h.apart j k m6 co aI F (by rw[ko,bp];exact ay)
def m8 (am:List Nat) (ms:List fF) (z:jz):List fF :=
 match ms[z.mem.toNat]? with
 | some m=>if gR am z.when_≠0∧gR am z.addr<m.l.length then ms.set z.mem.toNat ⟨m.b,m.l.set (gR am z.addr) (gR am z.data)⟩ else ms
 | none=>ms
theorem awC (am:List Nat) (ms:List fF) (z:jz):(m8 am ms z).map fF.b=ms.map fF.b:=by
 unfold m8;cases ae:ms[z.mem.toNat]? with
 | none=>rfl
 | some m =>
  simp only;split
  ·apply List.ext_getElem?;intro j;rw[fT,fT];by_cases aT:j=z.mem.toNat
   ·subst aT;rw[t6 (cr.1 ae).1,ae];rfl
   ·rw[ve (Ne.symm aT)]
  ·rfl
theorem awF (am:List Nat) (ms:List fF) (z:jz):(m8 am ms z).map (fun m=>m.l.length)=ms.map (fun m=>m.l.length):=by
 unfold m8;cases ae:ms[z.mem.toNat]? with
 | none=>rfl
 | some m =>
  simp only;split
  ·apply List.ext_getElem?;intro j;rw[fT,fT];by_cases aT:j=z.mem.toNat
   ·subst aT;rw[t6 (cr.1 ae).1,ae];simp
   ·rw[ve (Ne.symm aT)]
  ·rfl
section
variable {P:Program} (w:World)
theorem akG (jI:Nat) (t CF e:TypeId) (i:TypeInfo) (z:Value) (eg:P.underlying t=some (.slice e)) (hi:P.info? e=some i) (ao:i.zero=some z)
  (v:Value) (n:Nat) (xs:List Value) (bc:w.ownsRow jI e i.size v n xs)
  (e9:Addr) (m c:Nat) (qz:List Value) (hl:qz.length=m*i.size) (FT:∀j u,qz[j]?=some u->w.cell? (e9.add j)=some u) (F:∀u∈qz,u.oneCell'=true)
  (ae:0<m) (Do:n+m<=maxLen) (Dy:((n+m)+(n+m) / 4+192)*i.bytes<=281474976710656) {tF:Value} {B:World}
  (h:(Builtin.append_ #[t,t] CF #[v,.slice (some e9) m c]).run P w = .ok tF B):tF.ownBlock=v.ownBlock∨tF.ownBlock=some w.heap.size:=by
 have azB:n+m<=9223372036854775807:=by simp only[maxLen] at Do;omega
 rcases bc.2 with ⟨rfl,rfl⟩ | ⟨g,cap,hV,rfl,ayA,af,mc,sP,jD,sS⟩
 ·have ak:=run_append_nil (P:=P) w t CF e i z eg hi ao e9 m c qz hl FT ae (by omega) (by have D:=Dy;simp only[Nat.zero_add] at D;exact bL (Nat.mul_le_mul_right _ (by omega)) D);rw[ak] at h;injection h with O aW
  exact .inr (by rw[<-O];rfl)
 ·by_cases aeb:n+m<=cap
  ·have ej:n*i.size+qz.length<=hV.size:=by rw[hl,jD,<-Nat.add_mul];exact Nat.mul_le_mul_right _ aeb
   have ak:=run_append_room (P:=P) w t CF e i eg hi g n cap hV af e9 m c qz hl FT F aeb ej;rw[ak] at h;injection h with O aW
   exact .inl (by rw[<-O];rfl)
  ·have holds:∀j u,xs[j]?=some u->w.cell? ((⟨g,0,none⟩:Addr).add j)=some u:=bc.cells (g:=g) rfl;have ak:=run_append_grow (P:=P) w t CF e i z eg hi ao ⟨g,0,none⟩ n cap xs bc.1 holds e9 m c qz hl FT (by omega) (by omega) (growslice_fits_wide (by omega) Dy);rw[ak] at h;injection h with O aW
   exact .inr (by rw[<-O];rfl)
theorem aww {jL:Array Oper} {oH:List Oper} {o:Oper} {a:Act} {Q:Exit->Act->World->Prop} (gF:o.guard=none) (s x:Operand) (t:TypeId)
  (aY:o.op = .call {callee:= .builtin .append,args:=#[s,x],argTypes:=#[t,t]})
  (jI:Nat) (e:TypeId) (i:TypeInfo) (z:Value) (size bytes:Nat) (eg:P.underlying t=some (.slice e)) (hi:P.info? e=some i) (ao:i.zero=some z)
  (KO:i.size=size) (jJ:i.bytes=bytes) (WQ:z.cells.size=size) (gY:0<size)
  (v:Value) (n:Nat) (xs:List Value) (hs:a.eval s=v) (bc:w.ownsRow jI e size v n xs)
  (e9:Addr) (m c:Nat) (qz:List Value) (J:a.eval x = .slice (some e9) m c) (hl:qz.length=m*size) (FT:∀j u,qz[j]?=some u->w.cell? (e9.add j)=some u) (F:∀u∈qz,u.oneCell'=true)
  (ae:0<m) (Do:n+m<=maxLen) (Dy:((n+m)+(n+m) / 4+192)*bytes<=281474976710656) (Vz:jI<=w.heap.size) (TX:Nat) (QE:w.heap.size=TX)
  (h:∀g cap B,B.ownsRow jI e size (.slice (some ⟨g,0,none⟩) (n+m) cap) (n+m) (xs++qz)->w.grownBy B v.ownBlock->(v.ownBlock=some g∨g=TX)->g<B.heap.size->wpList P jL Q oH (a.put o.dst (.slice (some ⟨g,0,none⟩) (n+m) cap)) B):wpList P jL Q (o::oH) a w:=by
 subst KO;subst jJ;refine wpList_plain gF fun aj W=>?_
 obtain⟨tF,B,ak,O,aW,-⟩:=run_append_own_wide (P:=P) w jI t o.type e i z i.size i.bytes eg hi ao rfl rfl WQ gY v n xs bc e9 m c qz hl FT F Do Dy Vz;have cw:=akG w jI t o.type e i z eg hi ao v n xs bc e9 m c qz hl FT F ae Do Dy ak;obtain⟨g,cap,rfl,-,aB⟩:=O.form (by omega);have hY:v.ownBlock=some g∨g=TX:=by
  rcases cw with cw | cw
  ·exact .inl (by rw[<-cw];rfl)
  ·right
   have:g=w.heap.size:=by simpa[Value.ownBlock] using cw
   rw[this,QE]
 unfold Oper.wp execOp;simp only[aY,resolve,invoke,builtin,Sem.run_bind,Sem.run_pure,Result.andThen_ok,List.map_toArray,List.map_cons,List.map_nil,hs,J,ak];exact W _ _ (h g cap B O aW hY aB)
end
theorem aqV (n:Nat):(madeCells (Value.int .u64 0).cells (n*1)).toList=(List.replicate n 0).map ib:=by
 rw[Nat.mul_one];apply List.ext_getElem?;intro i;by_cases h:i<n
 ·simp[madeCells,Value.cells,ib,h,Nat.mod_one]
 ·simp[madeCells,Value.cells,ib,h]
theorem apY:(Tryz.prog.info? 33).map (fun i=>(i.zero,i.size,i.bytes))=some (some (.slice none 0 0),1,24):=by kernel_rfl
theorem aeF:∃i,Tryz.prog.info? 33=some i∧i.zero=some (.slice none 0 0)∧i.size=1∧i.bytes=24:=by
 have h:=apY;cases hi:Tryz.prog.info? 33 with
 | none=>rw[hi] at h;cases h
 | some i=>rw[hi] at h;simp at h;exact⟨i,rfl,h.1,h.2.1,h.2.2⟩
theorem asi (wc:World) (N:aR) (eh:Nat) (a3:Option Addr) (c3:Nat) (fH:wc.cell? ⟨eh,3,none⟩=some (.slice a3 N.mems.length c3)) (uE:eh<wc.heap.size) (bR:Hid (cm wc.heap.size wc a3 2 (N.mems.map hf.cells))) (bO:∀z,z∈N.mems->1<=z.words∧z.words<=256) (aU:N.mems.length<=8796093022208) (b9:Act->World->Prop) (eV:Exit->Act->World->Prop) {bX dC e1 fx e2 ec ep cz gy fS eF ex ey cM cA cB cC cD cS cT cH cW cX cY cN cI eo c7 dD dE dF dh dO dP dr dt di dj c8 c9 db dd de df dG dH du cZ c6 dw dx dQ dy dz dI dJ dK dk dl dm dn dR dS dT dU dV dW dX dY dZ d0 d3 d4 d5 d6 d7 d8 ei ed eR eS eT eU fy fA e3 fM fC fD e4 e5 e6 e7 fN fO fP fB fc fd fe ff fg fh fi fj fk eY eZ e0 fJ fK fL fl fm fo fp fq fs ft fu fv fw eH eI eJ eK eL gm f8 f9 ga gb gc gf gu gv hE hj hk hm hn ho hp hq hr ht hu hv hw hd iy iz ig:Value}
  (dM:Hid (∀(B:World) {rS Si Gt Gu Gv Cx Cy Cz Gw Gy Lm Ln Lo Lp Lq Lr Ls Lt Lu:Value},(∃ms:List fF,ms.map fF.l=N.mems.map (fun m=>List.replicate m.words.toNat 0)∧mG wc.heap.size B ms∧B.ownsRow wc.heap.size 33 1 rS N.mems.length (ms.map fF.val)∧(∀m,m∈ms->rS.ownBlock≠some m.b)∧V wc B)->b9 ⟨#[bX,dC,.pointer (some ⟨eh,0,none⟩),e1,fx,e2,rS,ec,Si,ep,cz,gy,fS,eF,ex,ey,cM,cA,cB,cC,cD,cS,cT,cH,cW,cX,cY,cN,cI,eo,c7,dD,dE,Gt,Gu,Gv,Cx,Cy,Cz,Gw,Gy,Lm,Ln,Lo,Lp,Lq,Lr,Ls,Lt,Lu,cZ,c6,dw,dx,dQ,dy,dz,dI,dJ,dK,dk,dl,dm,dn,dR,dS,dT,dU,dV,dW,dX,dY,dZ,d0,d3,d4,d5,d6,d7,d8,ei,ed,eR,eS,eT,eU,fy,fA,e3,fM,fC,fD,e4,e5,e6,e7,fN,fO,fP,fB,fc,fd,fe,ff,fg,fh,fi,fj,fk,eY,eZ,e0,fJ,fK,fL,fl,fm,fo,fp,fq,fs,ft,fu,fv,fw,eH,eI,eJ,eK,eL,gm,f8,f9,ga,gb,gc,gf,gu,gv,hE,hj,hk,hm,hn,ho,hp,hq,hr,ht,hu,hv,hw,hd,iy,iz,ig],[]⟩ B)) :
  Code.wp Tryz.prog ((Tryz.f15.body.bind (jh 2)).getD .skip) (Exit.then b9 eV) ⟨#[bX,dC,.pointer (some ⟨eh,0,none⟩),e1,fx,e2,.slice none 0 0,ec,.int .i64 0,ep,cz,gy,fS,eF,ex,ey,cM,cA,cB,cC,cD,cS,cT,cH,cW,cX,cY,cN,cI,eo,c7,dD,dE,dF,dh,dO,dP,dr,dt,di,dj,c8,c9,db,dd,de,df,dG,dH,du,cZ,c6,dw,dx,dQ,dy,dz,dI,dJ,dK,dk,dl,dm,dn,dR,dS,dT,dU,dV,dW,dX,dY,dZ,d0,d3,d4,d5,d6,d7,d8,ei,ed,eR,eS,eT,eU,fy,fA,e3,fM,fC,fD,e4,e5,e6,e7,fN,fO,fP,fB,fc,fd,fe,ff,fg,fh,fi,fj,fk,eY,eZ,e0,fJ,fK,fL,fl,fm,fo,fp,fq,fs,ft,fu,fv,fw,eH,eI,eJ,eK,eL,gm,f8,f9,ga,gb,gc,gf,gu,gv,hE,hj,hk,hm,hn,ho,hp,hq,hr,ht,hu,hv,hw,hd,iy,iz,ig],[]⟩ wc:=by
 conv=>arg 2;whnf
 obtain⟨Ch,xA,xF,xD,xv⟩:=Oc
 change Hid _ at xA xF xD xv
 obtain⟨WT,Ny,N9,NW,Np⟩:=aeF
 change Hid _ at Ny N9 NW Np
 go_wp2_with fail
 go_loopw [6,8] (fun v aq B=>∃(k:Nat) (g4:List fF),k<=N.mems.length∧aq = .int .i64 k∧Hid (g4.map fF.l=(N.mems.take k).map fun m=>List.replicate m.words.toNat 0)∧Hid (mG wc.heap.size B g4)∧Hid (B.ownsRow wc.heap.size 33 1 v k (g4.map fF.val))∧Hid (∀m,m∈g4->v.ownBlock≠some m.b)∧Hid (V wc B)) (fun _ aq _=>N.mems.length - (intOf aq).toNat)
 case atStart=>exact⟨0,[],cE _,rfl,rfl,⟨fun m ae=>by simp at ae,fun i j m xJ ae=>by simp at ae⟩,k8 _ _ _ _,fun m ae=>by simp at ae,ax _ _⟩
 case round =>
  obtain⟨k,g4,X,rfl,lO,gT,a6,z0,au⟩:=hrel;have XI:=(au.cell (p:=⟨eh,3,none⟩) uE).trans fH;by_cases aB:k<N.mems.length
  ·obtain⟨z,ao⟩:∃z,N.mems[k]?=some z:=⟨N.mems[k],ct aB⟩
   obtain⟨bG,ck,bQ,gK,cx⟩:=bR.el ao;have c1:=(au.cell (p:=⟨bG,ck+k*2+1,none⟩) gK).trans (cx 1 _ rfl);have zs:=bO z (bn ao);have bp:z.words=((z.words.toNat:Nat):Int):=by omega
   rw[bQ] at XI;rw[bp] at c1;have bW:Hid ((N.mems.take (k+1)).map (fun m=>List.replicate m.words.toNat 0)=g4.map fF.l++[List.replicate z.words.toNat 0]):=by
    show _=_;rw[gM _ k z ao,g1,lO.out];rfl
   have ag:z.words.toNat<=256:=by omega
   generalize z.words.toNat=n at *;have fa:(k:Int)<(N.mems.length:Int):=by omega
   have bM:=bF ((k:Int)+1);have eN:Ch.bytes*n<=281474976710656:=by rw[xv.out];omega
   have jc:n<=maxLen:=by simp only[maxLen];omega
   have gY:=au.size;clear cx bQ ao bp zs;have tok:True:=trivial;have cn:k+1<=maxLen:=by simp only[maxLen];omega
   have cq:((k+1)+(k+1) / 4+192)*24<=281474976710656:=by omega
   go_wp2_with (first | (have _t:=tok;at_make;(refine wpList_make_full _ rfl (.tmp 46) (.tmp 46) 33 rfl wc.heap.size 32 Ch _ 1 Tryz.underlying33 xA xF xD .i64 .i64 (n:Int) (n:Int) n rfl rfl rfl rfl eN jc gY ?_;intro w1 gX ij;have bD:=K (tw ij);have ud:=K gX;have zl:=bD.size;have cJ:wc.heap.size<=(w1.alloc (.cells #[.slice (some ⟨wr.heap.size,0,none⟩) n n] 33)).heap.size:=(by simp;omega);have lA:=K (mx a6 bD);clear tok gX ij)) | (at_builtin;(refine aww _ rfl (.tmp 40) (.tmp 48) 29 rfl wc.heap.size 33 WT _ 1 24 Tryz.underlying29 Ny N9 NW Np rfl (by decide) u6 k _ rfl (lA.alloc _) ⟨w1.heap.size,0,none⟩ 1 1 [.slice (some ⟨wr.heap.size,0,none⟩) n n] rfl rfl (i5 (h8 _ _)) (by simp[Value.oneCell']) (by decide) cn cq cJ _ rfl ?_;intro g cap al bc br kX cj)))
   have G6:Hid (∃K3:List fF,K3.map fF.l=(N.mems.take (k+1)).map (fun m=>List.replicate m.words.toNat 0)∧mG wc.heap.size al K3∧al.ownsRow wc.heap.size 33 1 (.slice (some ⟨g,0,none⟩) (k+1) cap) (k+1) (K3.map fF.val)∧(∀m,m∈K3->Value.ownBlock (.slice (some ⟨g,0,none⟩) (k+1) cap)≠some m.b)∧V wc al):=by
    have o0:∀m,m∈g4->m.b<wr.heap.size:=fun m ae=>((gT.own m ae).lt m.b rfl).2
    have aep:∀b,u6.ownBlock=some b->b<wr.heap.size:=fun b D=>(a6.lt b D).2
    have bT:wr.heap.size<w1.heap.size:=(ud.lt wr.heap.size rfl).2;refine⟨g4++[⟨wr.heap.size,List.replicate n 0⟩],?_,⟨?_,?_⟩,?_,?_,?_⟩
    ·rw[g1,bW.out];rfl
    ·intro m ae;rcases o7.1 ae with ae | ae
     ·refine(((mx (gT.own m ae) bD.out).alloc _)).kept br (.inr ?_);exact fun e=>z0 m ae e.symm
     ·simp only[List.mem_singleton] at ae;subst ae;have F:=(ud.alloc (.cells #[.slice (some ⟨wr.heap.size,0,none⟩) n n] 33)).kept br (.inr (fun e=>by have:=aep wr.heap.size e.symm;omega));rw[aqV] at F;show World.ownsRow _ _ _ _ (Value.slice (some ⟨wr.heap.size,0,none⟩) (List.replicate n 0).length (List.replicate n 0).length) (List.replicate n 0).length ((List.replicate n 0).map ib);rw[List.length_replicate];exact F
    ·have D:∀(i:Nat) (m:fF),(g4++[⟨wr.heap.size,List.replicate n 0⟩])[i]?=some m->(i<g4.length∧g4[i]?=some m)∨(i=g4.length∧m.b=wr.heap.size):=by
      intro i m ae;rcases Nat.lt_or_ge i g4.length with hi | hi
      ·rw[mS hi] at ae;exact .inl ⟨hi,ae⟩
      ·rw[lu hi] at ae;have aI:=(cr.1 ae).1;simp at aI;have yC:i=g4.length:=by omega
       subst yC;simp at ae;exact .inr ⟨rfl,by rw[<-ae]⟩
     intro i j m xJ ae DD ay;rcases D i m ae with ⟨hi,F⟩ | ⟨hi,F⟩ <;> rcases D j xJ DD with ⟨aT,O⟩ | ⟨aT,O⟩
     ·exact gT.apart i j m xJ F O ay
     ·have:=o0 m (bn F);omega
     ·have:=o0 xJ (bn O);omega
     ·omega
    ·rw[g1]
     have:[(⟨wr.heap.size,List.replicate n 0⟩:fF)].map fF.val=[.slice (some ⟨wr.heap.size,0,none⟩) n n]:=by simp[fF.val]
     rw[this];exact bc
    ·intro m ae;show some g≠some m.b;intro e;have qo:g=m.b:=Option.some.inj e;have anX:m.b<=wr.heap.size∧(m.b<wr.heap.size->m∈g4):=by
      rcases o7.1 ae with ae | ae
      ·have:=o0 m ae;exact⟨by omega,fun _=>ae⟩
      ·simp only[List.mem_singleton] at ae;subst ae;exact⟨aL _,fun h=>absurd h (Nat.lt_irrefl _)⟩
     rcases kX with hY | hY
     ·have mX:=aep g hY;exact z0 m (anX.2 (by omega)) (by rw[hY,qo])
     ·simp at hY;omega
    ·refine Below.grown ((au.trans (bD.mono au.size)).alloc (bL au.size bD.size) _) br (by simp;omega) (fun b D=>(a6.lt b D).1)
   clear bc br kX cj cn cq cJ a6 lA ud bD au gT z0 bW lO zl;obtain⟨K3,T2,T3,ajZ,aj0,aj1⟩:=G6.out;go_roundw
   case measure=>simp[intOf];omega
   exact⟨k+1,K3,by omega,by simp,T2,T3,ajZ,aj0,aj1⟩
  ·have cQ:¬((k:Int)<(N.mems.length:Int)):=by omega
   have ou:Hid (g4.map fF.l=N.mems.map (fun m=>List.replicate m.words.toNat 0)∧wr.ownsRow wc.heap.size 33 1 u6 N.mems.length (g4.map fF.val)):=by
    have F:=lO.out;rw[fQ (by omega)] at F;refine⟨F,?_⟩
    have:=a6.out
    rw[show k=N.mems.length by omega] at this;exact this
   clear lO a6;go_wp2;exact dM _ ⟨g4,ou.1,gT.out,ou.2,z0.out,au⟩
theorem UT (am:List Nat) (l:List jz) (ms:List fF):(l.foldl (m8 am) ms).map (fun m=>m.l.length)=ms.map (fun m=>m.l.length)∧(l.foldl (m8 am) ms).map fF.b=ms.map fF.b:=by
 induction l generalizing ms with
 | nil=>exact⟨rfl,rfl⟩
 | cons z r aA =>
  simp only[List.foldl_cons];exact⟨(aA _).1.trans (awF am ms z),(aA _).2.trans (awC am ms z)⟩
theorem asr (wc:World) (N:aR) (C eh:Nat) (zd:C<=wc.heap.size) (ms:List fF) (gQ:List Nat) (xw:∀b,b∈gQ->C<=b) (nX:Hid (gQ=ms.map fF.b)) (w8:Hid (mG C wc ms)) (a3 a4:Option Addr) (c3 c4:Nat) (fH:wc.cell? ⟨eh,3,none⟩=some (.slice a3 N.mems.length c3)) (h3:wc.cell? ⟨eh,4,none⟩=some (.slice a4 N.wrs.length c4)) (mL:eh<wc.heap.size) (cR:eh∉gQ) (JN:Hid (cm C wc a3 2 (N.mems.map hf.cells))) (jr:Hid (cm C wc a4 4 (N.wrs.map jz.cells))) (b6 Gf rt:Nat) (mX:b6<wc.heap.size) (U4:b6∉gQ) (aii:Hid (∀(i:Nat) (m:fF),ms[i]?=some m->wc.cell? ⟨b6,Gf+i,none⟩=some m.val)) (am:List Nat) (gs iW gJ:Nat) (o1:gs<wc.heap.size) (rL:gs∉gQ) (jq:Hid (∀(i x:Nat),am[i]?=some x->wc.cell? ⟨gs,iW+i,none⟩=some (.int .u64 (x:Int)))) (y2:Hid (ms.length=N.mems.length)) (oY:∀m,m∈ms->m.l.length<17592186044416) (tm:∀b,b∈gQ->b<wc.heap.size) (WI:∀(i:Nat) (m:fF) (z:hf),ms[i]?=some m->N.mems[i]?=some z->z.words=(m.l.length:Int)) (bO:∀z,z∈N.wrs->0<=z.mem∧z.mem<(N.mems.length:Int)∧0<=z.when_∧z.when_<(am.length:Int)∧0<=z.addr∧z.addr<(am.length:Int)∧0<=z.data∧z.data<(am.length:Int)) (aU:N.wrs.length<17592186044416) (b9:Act->World->Prop) (eV:Exit->Act->World->Prop) {bX dC e1 fx e2 ec dL ep cz fS eF ex cM cA cB cC cD cS cT cH cW cX cY cN cI eo c7 dD dE dF dh dO dP dr dt di dj c8 c9 db dd de df dG dH du cZ c6 dw dx dQ dy dz dI dJ dK dk dl dm dn dR dS dT dU dV dW dX dY dZ d0 d3 d4 d5 d6 d7 d8 ei ed eR eS eT eU fy fA e3 fM fC fD e4 e5 e6 e7 fN fO fP fB fc fd fe ff fg fh fi fj fk eY eZ e0 fJ fK fL fl fm fo fp fq fs ft fu fv fw eH eI eJ eK eL gm f8 f9 ga gb gc gf gu gv hE hj hk hm hn ho hp hq hr ht hu hv hw hd iy iz ig:Value}
  (dM:Hid (∀(B:World) {Bh Bi AX AY AZ A0 D8 D9 Ea Eb Ec A1 A2 A3 A4 A5 A6 A7 A8 A9 Ba Bb Bc Bd Be Bf Bg Ee IX IY IZ I0 I1 I2 I3 I4 Ef Eg Eh Ei Ej Ek El Em Eo Ep Er Es Et I5 I6 I7:Value},(mG C B (N.wrs.foldl (m8 am) ms)∧jy gQ wc B)->b9 ⟨#[bX,dC,.pointer (some ⟨eh,0,none⟩),e1,fx,e2,.slice (some ⟨b6,Gf,none⟩) ms.length rt,ec,dL,ep,cz,.slice (some ⟨gs,iW,none⟩) am.length gJ,fS,eF,ex,Bh,Bi,cA,cB,cC,cD,cS,cT,cH,cW,cX,cY,cN,cI,eo,c7,dD,dE,dF,dh,dO,dP,dr,dt,di,dj,c8,c9,db,dd,de,df,dG,dH,du,cZ,c6,dw,dx,dQ,dy,dz,dI,dJ,dK,dk,dl,dm,dn,dR,dS,dT,dU,dV,dW,dX,dY,dZ,d0,d3,d4,d5,d6,d7,d8,ei,ed,eR,eS,eT,eU,fy,fA,e3,fM,fC,fD,e4,e5,e6,e7,fN,fO,fP,fB,fc,fd,fe,ff,fg,AX,AY,AZ,A0,D8,D9,Ea,Eb,Ec,A1,A2,A3,A4,A5,A6,A7,A8,A9,Ba,Bb,Bc,Bd,Be,Bf,Bg,Ee,IX,IY,IZ,I0,I1,I2,I3,I4,Ef,Eg,Eh,Ei,Ej,Ek,El,Em,Eo,Ep,Er,Es,Et,I5,I6,I7,ig],[]⟩ B)) :
  Code.wp Tryz.prog ((Tryz.f15.body.bind (jh 10)).getD .skip) (Exit.then b9 eV) ⟨#[bX,dC,.pointer (some ⟨eh,0,none⟩),e1,fx,e2,.slice (some ⟨b6,Gf,none⟩) ms.length rt,ec,dL,ep,cz,.slice (some ⟨gs,iW,none⟩) am.length gJ,fS,eF,ex,.int .i64 0,cM,cA,cB,cC,cD,cS,cT,cH,cW,cX,cY,cN,cI,eo,c7,dD,dE,dF,dh,dO,dP,dr,dt,di,dj,c8,c9,db,dd,de,df,dG,dH,du,cZ,c6,dw,dx,dQ,dy,dz,dI,dJ,dK,dk,dl,dm,dn,dR,dS,dT,dU,dV,dW,dX,dY,dZ,d0,d3,d4,d5,d6,d7,d8,ei,ed,eR,eS,eT,eU,fy,fA,e3,fM,fC,fD,e4,e5,e6,e7,fN,fO,fP,fB,fc,fd,fe,ff,fg,fh,fi,fj,fk,eY,eZ,e0,fJ,fK,fL,fl,fm,fo,fp,fq,fs,ft,fu,fv,fw,eH,eI,eJ,eK,eL,gm,f8,f9,ga,gb,gc,gf,gu,gv,hE,hj,hk,hm,hn,ho,hp,hq,hr,ht,hu,hv,hw,hd,iy,iz,ig],[]⟩ wc:=by
 conv=>arg 2;whnf
 go_wp2_with fail
 go_loopw [15] (fun aq B=>∃(k:Nat) (g4:List fF),k<=N.wrs.length∧aq = .int .i64 k∧Hid (g4=(N.wrs.take k).foldl (m8 am) ms)∧Hid (mG C B g4)∧Hid (jy gQ wc B)) (fun aq _=>N.wrs.length - (intOf aq).toNat)
 case atStart=>exact⟨0,ms,cE _,rfl,rfl,w8.out,jy.refl _ _⟩
 case round =>
  obtain⟨k,g4,X,rfl,ch,cO,xa⟩:=hrel;have afY:=(xa.cell (p:=⟨eh,4,none⟩) mL cR).trans h3;by_cases aB:k<N.wrs.length
  ·obtain⟨z,ao⟩:∃z,N.wrs[k]?=some z:=⟨N.wrs[k],ct aB⟩
   obtain⟨oM,ss,bQ,i1,xG⟩:=jr.el ao;have zs:oM<wc.heap.size:=bk i1 zd;have RE:oM∉gQ:=fun h=>absurd (xw oM h) (by omega)
   have oK:wr.cell? ⟨oM,ss+k*4,none⟩=_:=(xa.cell (p:=⟨oM,ss+k*4,none⟩) zs RE).trans (xG 0 _ rfl);have iA:=(xa.cell (p:=⟨oM,ss+k*4+1,none⟩) zs RE).trans (xG 1 _ rfl);have jW:=(xa.cell (p:=⟨oM,ss+k*4+2,none⟩) zs RE).trans (xG 2 _ rfl);have l0:=(xa.cell (p:=⟨oM,ss+k*4+3,none⟩) zs RE).trans (xG 3 _ rfl);obtain⟨vz,cn,iT,bT,qp,ux,VF,FH⟩:=bO z (bn ao);have NK:g4.map (fun m=>m.l.length)=ms.map (fun m=>m.l.length)∧g4.map fF.b=ms.map fF.b:=by
    rw[ch.out];exact UT am _ ms
   rw[bQ] at afY;have fa:(k:Int)<(N.wrs.length:Int):=by omega
   have bM:=bF ((k:Int)+1);have jn:Hid ((N.wrs.take (k+1)).foldl (m8 am) ms=m8 am g4 z):=by
    show _=_;rw[gM _ k z ao,List.foldl_append,<-ch.out];rfl
   clear xG ao;go_wp2_with fail
   generalize hy:World.alloc wr _=aC;have fE:Hid (V wr aC):=by rw[<-hy];exact(ax _ _).alloc (aL _) _
   have az:aC.cell? ⟨wr.heap.size,0,none⟩=some (.int .i64 z.mem):=by rw[<-hy];simp
   have w1:aC.cell? ⟨wr.heap.size,1,none⟩=some (.int .i64 z.when_):=by rw[<-hy];simp
   have w2:aC.cell? ⟨wr.heap.size,2,none⟩=some (.int .i64 z.addr):=by rw[<-hy];simp
   have w3:aC.cell? ⟨wr.heap.size,3,none⟩=some (.int .i64 z.data):=by rw[<-hy];simp
   have tn:wr.heap.size<aC.heap.size:=by rw[<-hy];simp
   clear hy oK iA jW l0 afY;have xb:Hid (jy gQ wc aC):=xa.trans (jy.of_below fE);have yH:=xb.size;have ayL:wr.heap.size∉gQ:=fun h=>absurd (tm _ h) (by have:=xa.size;omega)
   have afX:=(xb.cell (p:=⟨eh,3,none⟩) mL cR).trans fH;obtain⟨qa,N7⟩:∃y,am[z.when_.toNat]?=some y:=⟨am[z.when_.toNat]'(by omega),ct (by omega)⟩
   obtain⟨mB,WM⟩:∃y,am[z.addr.toNat]?=some y:=⟨am[z.addr.toNat]'(by omega),ct (by omega)⟩
   obtain⟨qc,WN⟩:∃y,am[z.data.toNat]?=some y:=⟨am[z.data.toNat]'(by omega),ct (by omega)⟩
   have hJ:=(xb.cell (p:=⟨gs,iW+z.when_.toNat,none⟩) o1 rL).trans (jq _ qa N7);have gZ:=(xb.cell (p:=⟨gs,iW+z.addr.toNat,none⟩) o1 rL).trans (jq _ mB WM);have nC:=(xb.cell (p:=⟨gs,iW+z.data.toNat,none⟩) o1 rL).trans (jq _ qc WN);obtain⟨sY,V3⟩:∃m,N.mems[z.mem.toNat]?=some m:=⟨N.mems[z.mem.toNat]'(by omega),ct (by omega)⟩
   obtain⟨M,im,nk,o0,lG⟩:=JN.el V3;have lW:M<wc.heap.size:=bk o0 zd;have NJ:M∉gQ:=fun h=>absurd (xw M h) (by omega)
   have m1:=(xb.cell (p:=⟨M,im+z.mem.toNat*2+1,none⟩) lW NJ).trans (lG 1 _ rfl);rw[nk] at afX;have rF:=y2.out;obtain⟨a9,kV⟩:∃m,ms[z.mem.toNat]?=some m:=⟨ms[z.mem.toNat]'(by omega),ct (by omega)⟩
   have aoE:g4.length=ms.length:=by have:=congrArg List.length NK.2;simpa using this
   obtain⟨oz,Ks⟩:∃m,g4[z.mem.toNat]?=some m:=⟨g4[z.mem.toNat]'(by omega),ct (by omega)⟩
   have sI:oz.b=a9.b:=by have:=congrArg (fun l=>l[z.mem.toNat]?) NK.2;simpa[kV,Ks] using this
   have el:oz.l.length=a9.l.length:=by have:=congrArg (fun l=>l[z.mem.toNat]?) NK.1;simpa[kV,Ks] using this
   have dg:=WI _ a9 sY kV V3;have Qa:=(xb.cell (p:=⟨b6,Gf+z.mem.toNat,none⟩) mX U4).trans (aii _ a9 kV);unfold fF.val at Qa;rw[<-sI,<-el] at Qa;rw[dg,<-el] at m1;have BB:Hid (mG C aC g4):=cO.to fE;have aou:oz.l.length<17592186044416:=by rw[el];exact oY a9 (bn kV)
   have Fk:IntKind.u64.wrap (oz.l.length:Int)=(oz.l.length:Int):=qD _ (by omega) (by omega);have nf:Hid (m8 am g4 z=if qa≠0∧mB<oz.l.length then g4.set z.mem.toNat ⟨oz.b,oz.l.set mB qc⟩ else g4):=by
    show _=_;unfold m8;rw[Ks];simp only[gR,N7,WM,WN,Option.getD_some]
   have acO:oz.b∈gQ:=by rw[nX.out,sI];exact i6.2 ⟨a9,bn kV,rfl⟩
   have aze:z.mem<(ms.length:Int):=by omega
   have Dm:∀(n5:World),m8 am g4 z=g4->V aC n5->mG C n5 (m8 am g4 z)∧jy gQ wc n5:=fun n5 e D=>⟨by rw[e];exact BB.to D,xb.trans (jy.of_below D)⟩
   change Hid _ at Ks Dm
   clear N7 WM WN V3 lG nk kV dg NK aoE rF sI el aou cO xa fE ch;generalize z.mem=wW at *;generalize z.when_=aBc at *;generalize z.addr=YL at *;generalize z.data=awW at *;by_cases bY:qa=0
   ·subst bY;have e:m8 am g4 z=g4:=by rw[nf.out,if_neg (by simp)]
    change Hid _ at e
    clear nf;go_quiet (fail)
    go_wp2;go_roundw
    case measure=>simp[intOf];omega
    exact⟨k+1,_,by omega,by simp,jn.symm,(Dm _ e (Below.drewN (ax _ _) _)).1,(Dm _ e (Below.drewN (ax _ _) _)).2⟩
   ·have adS:((qa:Int) != 0)=true:=by simp[bY]
    have acv:(qa:Int)≠0:=by omega
    by_cases bK:mB<oz.l.length
    ·have acw:(mB:Int)<(oz.l.length:Int):=by omega
     go_quiet (fail)
     go_wp2_with fail
     generalize mK:World.drewN aC _=n5;have s9:Hid (V aC n5):=by rw[<-mK];exact Below.drewN (ax _ _) _
     clear mK;have Wx:=s9.size;have u0:=(s9.cell (p:=⟨wr.heap.size,0,none⟩) tn).trans az;have u2:=(s9.cell (p:=⟨wr.heap.size,2,none⟩) tn).trans w2;have u3:=(s9.cell (p:=⟨wr.heap.size,3,none⟩) tn).trans w3;have en:=(s9.cell (p:=⟨gs,iW+YL.toNat,none⟩) (bk o1 yH)).trans gZ;have e1:=(s9.cell (p:=⟨gs,iW+awW.toNat,none⟩) (bk o1 yH)).trans nC;have ea:=(s9.cell (p:=⟨b6,Gf+wW.toNat,none⟩) (bk mX yH)).trans Qa;have ayK:wr.heap.size<n5.heap.size:=bk tn Wx;have azL:gs<n5.heap.size:=bk (bk o1 yH) Wx;have ayb:b6<n5.heap.size:=bk (bk mX yH) Wx;have Tt:Hid (mG C n5 g4):=BB.to s9;have bc:=Tt.own oz (bn Ks);have jt:=World.ownsRow.cellAt (g:=oz.b) (cap:=oz.l.length) bc mB (by omega);have aAp:=World.ownsRow.frozenAt (g:=oz.b) (cap:=oz.l.length) bc mB;obtain⟨i4,aAq⟩:∃i4,n5.cell? ⟨oz.b,mB,none⟩=some i4:=by
      rw[jt];have jR:mB<(oz.l.map ib).length:=by simpa using bK
      exact⟨_,ct jR⟩
     have aaX:Hid (m8 am g4 z=g4.set wW.toNat ⟨oz.b,oz.l.set mB qc⟩):=by
      show _=_;rw[nf.out,if_pos ⟨bY,bK⟩]
     have eC:=K (Tt.set (a:=mB) (y:=qc) Ks.out);have JP:Hid (jy gQ wc n5):=xb.trans (jy.of_below s9);clear bc jt nf az w1 w2 w3 hJ gZ nC m1 Qa afX BB s9 Dm
     go_region_held3 (fun B=>∀bw o,bw<n5.heap.size->bw∉gQ->B.cell? ⟨bw,o,none⟩=n5.cell? ⟨bw,o,none⟩)
      (first|assumption|(intro bw o F O;rfl)|(intro bw o F O;exact ce _ _ _ _ (fun e=>O (by have qo:oz.b=bw:=e;rw[<-qo];exact acO))))
      (fail)
     have re:Hid (mG C ((n5.setCell ⟨oz.b,mB,none⟩ (.int .u64 (qc:Int))).drew) (m8 am g4 z)∧jy gQ wc ((n5.setCell ⟨oz.b,mB,none⟩ (.int .u64 (qc:Int))).drew)):=by
      refine⟨?_,(JP.trans (jy.of_grown eC.2 acO)).trans (jy.of_below (ax _ _).drew)⟩;rw[aaX.out];exact eC.1.to (ax _ _).drew
     clear eC JP Tt aaX;go_wp2_with fail
     go_roundw
     case measure=>simp[intOf];omega
     exact⟨k+1,_,by omega,by simp,jn.symm,re.1,re.2⟩
    ·have U:decide ((mB:Int)<(oz.l.length:Int))=false:=by rw[vf];omega
     have e:m8 am g4 z=g4:=by rw[nf.out,if_neg (fun h=>bK h.2)]
     change Hid _ at e
     clear nf;go_quiet (fail)
     go_wp2;go_roundw
     case measure=>simp[intOf];omega
     exact⟨k+1,_,by omega,by simp,jn.symm,(Dm _ e (Below.drewN (ax _ _) _)).1,(Dm _ e (Below.drewN (ax _ _) _)).2⟩
  ·have cQ:¬((k:Int)<(N.wrs.length:Int)):=by omega
   have nH:Hid (g4=N.wrs.foldl (m8 am) ms):=by
    show _=_;rw[ch.out,fQ (by omega)]
   clear ch;go_wp2;exact dM _ ⟨by rw[<-nH.out];exact cO,xa⟩
end Go.Proofs.YtcbcenfjigcfkaaGreatDoor
