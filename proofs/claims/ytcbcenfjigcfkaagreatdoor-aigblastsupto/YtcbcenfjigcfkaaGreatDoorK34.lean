import Derived.Test.YtcbcenfjigcfkaaGreatDoorK33
set_option maxRecDepth 100000
set_option maxHeartbeats 40000000
namespace Go.Proofs.YtcbcenfjigcfkaaGreatDoor
open Go.RowKit
theorem Ad {a v b:World} (F:V a v) (O:V v b):V a b:=F.trans (O.mono F.size)
theorem R7 {w:World} {Y t gx g n cap:Nat} {xs:List Value} (h:w.ownsRow Y t gx (.slice (some ⟨g,0,none⟩) n cap) n xs):∀(j:Nat) (u:Value),xs[j]?=some u->w.cell? ((⟨g,0,none⟩:Addr).add j)=some u:=fun j u bb=>by
 rw[HH,h.cellAt j (by have:=(cr.1 bb).1;have:=h.1;omega)];exact bb
theorem Og (l:List eA):(l.flatMap eA.cells).length=l.length*2∧∀u,u∈l.flatMap eA.cells->u.oneCell'=true:=by
 induction l with
 | nil=>exact⟨rfl,fun u bb=>by simp at bb⟩
 | cons d l aA =>
  rw[List.flatMap_cons];refine⟨by rw[jw,aA.1,yb];simp[eA.cells];omega,fun u bb=>?_⟩;rcases o7.1 bb with h | h
  ·unfold eA.cells at h;rcases List.mem_cons.1 h with rfl | h
   ·rfl
   ·rcases List.mem_cons.1 h with rfl | h
    ·rfl
    ·cases h
  ·exact aA.2 u h
theorem abL {w:World} {C aX j:Nat} {x:Value} (h:C<=aX) (eu:C<=w.heap.size):Below C w (w.setCell ⟨aX,j,none⟩ x):=jB (oW _ _ _ _) eu (fun k X=>by cases X;exact h)
theorem ak3 (C:Nat) (wc:World) (E M first ai ab aK aX kh m c2:Nat) (a2:Option Addr) (hs:List Z) (an j0:Nat->Prop) (wl:List (List Int)) (N:aR) (JU:Hid (∀b,j0 b↔an b∧b≠aX)) (EV:Hid (i7 C wc wc E M aX 1 first hs j0 81 2 (.slice none 0 0) 0 [])) (Mf:Hid (∀j x,wc.cell? ⟨aX,j,none⟩=some (.int .i64 x)->j=0)) (nM:wc.cell? ⟨ai,5,none⟩=some (.slice (some ⟨aK,0,none⟩) kh kh)) (lx:Hid (∀(i:Nat) (l:List Int),wl[i]?=some l->l≠[]->∃x,wc.cell? ⟨aK,i,none⟩=some x∧cv an wc x l)) (xC:j0 ai) (qv:j0 aK) (z1:Hid (wl.length=kh)) (ts:ab<C) (eX:wc.cell? ⟨ab,2,none⟩=some (.slice a2 m c2)) (gT:Hid (m=N.regs.length)) (ae:m<=1048576) (bR:Hid (cm C wc a2 3 (N.regs.map l4.cells))) (E6:Hid (∀r,r∈N.regs->0<=r.next∧0<=r.init∧r.init<18446744073709551616∧0<(wl.getD r.next.toNat []).length∧(wl.getD r.next.toNat []).length<=64)) (w7:Hid (∀k,(m7 wl (N.regs.take k)).length<=6000)) (b9:Act->World->Prop) (eV:Exit->Act->World->Prop) {dC en e2 ea ec dL ep cz gy fS eF ex ey cM cA cB cC cD cS cT cH cW cX cY cN cI eo c7 dD dE dF dh dO dP dr dt di dj c8 c9 db dd de df dG dH du cZ c6 dw dx dQ dy dz dk dl dm dn dR dS dT dU dV dW dX dY dZ d0 d3 d4 d5 d6 d7 d8 ei ed eR eS eT eU fy fA e3 fM fC fD e4 e5 e6 e7 fN fO fP fB fc fd fe ff fg fh fi fj fk eY eZ e0 fJ fK fL fl fm fo fp fq fs ft fu fv fw eH eI eJ eK eL gm f8 f9 ga gb gc gf gu gv:Value}
  (dM:Hid (∀(B:World) {Gz Si I8 I9 Ja Jb Jc vM vN vO vP vQ vR vS vT vU vV vW vX vY vZ v1 v2 yR Bk X0 X1 X2 X3 Bl Bm:Value},(∃u n,i7 C wc B E M aX 1 first hs j0 81 2 u n ((m7 wl N.regs).flatMap eA.cells))->b9 ⟨#[.pointer (some ⟨ab,0,none⟩),dC,en,.pointer (some ⟨ai,0,none⟩),.pointer (some ⟨aX,0,none⟩),e2,ea,Gz,Si,ep,cz,gy,fS,eF,ex,ey,cM,cA,cB,cC,cD,cS,cT,cH,cW,cX,cY,cN,cI,eo,c7,dD,dE,dF,dh,dO,dP,dr,dt,di,dj,c8,c9,db,dd,de,df,dG,dH,du,cZ,c6,dw,dx,dQ,dy,dz,.slice a2 m c2,.int .i64 m,I8,I9,Ja,Jb,Jc,vM,vN,vO,vP,vQ,vR,vS,vT,vU,vV,vW,vX,vY,vZ,v1,v2,yR,Bk,X0,X1,X2,X3,Bl,Bm,e3,fM,fC,fD,e4,e5,e6,e7,fN,fO,fP,fB,fc,fd,fe,ff,fg,fh,fi,fj,fk,eY,eZ,e0,fJ,fK,fL,fl,fm,fo,fp,fq,fs,ft,fu,fv,fw,eH,eI,eJ,eK,eL,gm,f8,f9,ga,gb,gc,gf,gu,gv],[]⟩ B)) :
  Code.wp Tryz.prog ((Tryz.f27.body.bind (jh 2)).getD .skip) (Exit.then b9 eV) ⟨#[.pointer (some ⟨ab,0,none⟩),dC,en,.pointer (some ⟨ai,0,none⟩),.pointer (some ⟨aX,0,none⟩),e2,ea,ec,dL,ep,cz,gy,fS,eF,ex,ey,cM,cA,cB,cC,cD,cS,cT,cH,cW,cX,cY,cN,cI,eo,c7,dD,dE,dF,dh,dO,dP,dr,dt,di,dj,c8,c9,db,dd,de,df,dG,dH,du,cZ,c6,dw,dx,dQ,dy,dz,.slice a2 m c2,.int .i64 m,.int .i64 0,dk,dl,dm,dn,dR,dS,dT,dU,dV,dW,dX,dY,dZ,d0,d3,d4,d5,d6,d7,d8,ei,ed,eR,eS,eT,eU,fy,fA,e3,fM,fC,fD,e4,e5,e6,e7,fN,fO,fP,fB,fc,fd,fe,ff,fg,fh,fi,fj,fk,eY,eZ,e0,fJ,fK,fL,fl,fm,fo,fp,fq,fs,ft,fu,fv,fw,eH,eI,eJ,eK,eL,gm,f8,f9,ga,gb,gc,gf,gu,gv],[]⟩ wc:=by
 conv=>arg 2;whnf
 obtain⟨ev,eB,fb,em,b8⟩:=RJ
 change Hid _ at eB fb em b8
 go_wp2_with fail
 go_loopw [59] (fun aq B=>∃(k:Nat) (u:Value) (bx:Nat),k<=m∧aq = .int .i64 k∧Hid (i7 C wc B E M aX 1 first hs j0 81 2 u bx ((m7 wl (N.regs.take k)).flatMap eA.cells))) (fun aq _=>m - (intOf aq).toNat)
 case atStart=>exact⟨0,_,0,cE _,rfl,EV⟩
 case round =>
  clear EV;obtain⟨k,u,bx,X,rfl,he⟩:=hrel;by_cases aB:k<m
  ·obtain⟨r,ak⟩:=bS (l:=N.regs) (k:=k) (by have:=gT.out;omega);obtain⟨bG,ck,bQ,gK,cx⟩:=bR.el ak;subst bQ;obtain⟨io,jM,lZ,oG,AP⟩:=E6 r (bn ak);have Aw:bx*2=((m7 wl (N.regs.take k)).flatMap eA.cells).length:=he.ow.1.symm;rw[(Og _).1] at Aw;have Q8:=w7 k;have Rb:=w7 (k+1);have DS:m7 wl (N.regs.take (k+1))=m7 wl (N.regs.take k)++ju (wl.getD r.next.toNat []) r.init.toNat:=by
    unfold m7;rw[gM _ k _ ak,s4];simp
   rw[DS,jw,Of] at Rb;have Iz:(m7 wl (N.regs.take (k+1))).flatMap eA.cells=(m7 wl (N.regs.take k)).flatMap eA.cells++(ju (wl.getD r.next.toNat []) r.init.toNat).flatMap eA.cells:=by rw[DS,s4]
   have jt:=Og (ju (wl.getD r.next.toNat []) r.init.toNat);rw[Of] at jt;obtain⟨wd,IC,azR⟩:=r;dsimp only at io jM lZ oG AP Iz jt Rb;obtain⟨vG,rfl⟩:=Int.eq_ofNat_of_zero_le io;obtain⟨x,rfl⟩:=Int.eq_ofNat_of_zero_le jM;simp only[Int.toNat_natCast] at oG AP Iz jt Rb;have cb:wl.getD vG []≠[]:=fun e=>by rw[e] at oG;simp at oG
   have tp:=Kk cb;generalize wl.getD vG []=l at *;obtain⟨GI,Cf,dg⟩:=lx vG l tp cb;have ZP:Hid (∀b,an b->b≠aX->wr.heap[b]?=wc.heap[b]?):=fun b D ag=>he.kp.block b ((JU b).2 ⟨D,ag⟩)
   have N5:=dg.box Mf ZP (he.oth 0 (by decide));obtain⟨lC,mN,pk,rfl,an3,-,qX⟩:=N5;have Iy:wr.cell? ⟨aK,vG,none⟩=some (.slice (some ⟨lC,mN,none⟩) l.length pk):=(dA (a:=⟨aK,vG,none⟩) (he.kp.block aK qv)).trans Cf;have MG:Hid (∀v,V wr v->Calls Tryz.prog 53 #[.slice (some ⟨lC,mN,none⟩) l.length pk,.int .u64 x] v fun e B=>∃g cap,e = .returned (.slice (some ⟨g,0,none⟩) l.length cap)∧B.ownsRow v.heap.size 81 2 (.slice (some ⟨g,0,none⟩) l.length cap) l.length ((ju l x).flatMap eA.cells)∧V v B):=fun v L =>
    aeZ v lC mN pk l x oG AP (by omega) (fun i y aF=>(L.cell (p:=⟨lC,mN+i,none⟩) (World.block_lt_of_cell? _ _ (qX i y aF))).trans (qX i y aF))
   have KG:vG<wl.length:=(cr.1 tp).1;have c1:wr.cell? ⟨bG,ck+k*3+1,none⟩=some (.int .u64 (x:Int)):=(he.kp.below.cell (p:=⟨bG,ck+k*3+1,none⟩) gK).trans (cx 1 _ rfl);have BO:wr.cell? ⟨bG,ck+k*3+2,none⟩=some (.int .i64 (vG:Int)):=(he.kp.below.cell (p:=⟨bG,ck+k*3+2,none⟩) gK).trans (cx 2 _ rfl);have b5:wr.cell? ⟨ai,5,none⟩=some (.slice (some ⟨aK,0,none⟩) kh kh):=(dA (a:=⟨ai,5,none⟩) (he.kp.block ai xC)).trans nM;have IU:=(he.kp.below.cell (p:=⟨ab,2,none⟩) ts).trans eX;have y5:=K Iz;have Hn:=K jt.1;have C9:=K jt.2;generalize (ju l x).flatMap eA.cells=ol at *;generalize NH:l.length=lw at *;have Db:=MG;have sQ:0<lw:=oG;have cn:bx+lw<=maxLen:=by simp only[maxLen];omega
   have cq:(bx+lw)*16<=140737488355328:=by omega
   have rI:=he.fld;have hx:wr.cell? ⟨ai,5,none⟩=some (.slice (some ⟨aK,0,none⟩) kh kh)∧wr.cell? ⟨bG,ck+k*3+2,none⟩=some (.int .i64 (vG:Int))∧wr.cell? ⟨bG,ck+k*3+1,none⟩=some (.int .u64 (x:Int))∧wr.cell? ⟨aK,vG,none⟩=some (.slice (some ⟨lC,mN,none⟩) lw pk):=⟨b5,BO,c1,Iy⟩
   have qM:Hid (∀(B:World),(∀b,j0 b->B.heap[b]?=wr.heap[b]?)->Below C wr B->B.cell? ⟨ai,5,none⟩=some (.slice (some ⟨aK,0,none⟩) kh kh)∧B.cell? ⟨bG,ck+k*3+2,none⟩=some (.int .i64 (vG:Int))∧B.cell? ⟨bG,ck+k*3+1,none⟩=some (.int .u64 (x:Int))∧B.cell? ⟨aK,vG,none⟩=some (.slice (some ⟨lC,mN,none⟩) lw pk)):=fun B aJ tm=>⟨(dA (a:=⟨ai,5,none⟩) (aJ ai xC)).trans b5,(tm.cell (p:=⟨bG,ck+k*3+2,none⟩) gK).trans BO,(tm.cell (p:=⟨bG,ck+k*3+1,none⟩) gK).trans c1,(dA (a:=⟨aK,vG,none⟩) (aJ aK qv)).trans Iy⟩
   have FO:(vG:Int)<(kh:Int):=by have:=z1.out;omega
   have fa:(k:Int)<(m:Int):=by omega
   have bM:=bF ((k:Int)+1);clear io jM lZ oG AP Aw Q8 Rb DS Iz jt tp Cf dg qX an3 Iy KG c1 BO b5 MG NH cx ak ZP cb;go_upto_region 14 with fail
   clear IU;refine mR ?_;refine ih (S:=(fun B=>B.cell? ⟨ai,5,none⟩=some (.slice (some ⟨aK,0,none⟩) kh kh)∧B.cell? ⟨bG,ck+k*3+2,none⟩=some (.int .i64 (vG:Int))∧B.cell? ⟨bG,ck+k*3+1,none⟩=some (.int .u64 (x:Int))∧B.cell? ⟨aK,vG,none⟩=some (.slice (some ⟨lC,mN,none⟩) lw pk))) (by kernel_rfl) (by exact hx) (fun ii=>?_);refine R 0 ?_;refine R 2 ?_;refine R 3 ?_;refine R 4 ?_;refine R 5 ?_;refine R 6 ?_;refine R 7 ?_;refine R 8 ?_;refine R 9 ?_;refine R 10 ?_;refine R 11 ?_;refine R 12 ?_;refine R 13 ?_;refine R 14 ?_;refine R 15 ?_;refine wpAnyH_ready (rs:=[1,16]) (by kernel_rfl) (by simp) ?_;refine j9 (o:=_) rfl (fun aj W=>?_) ?_
   ·(try simp only[bf,bg,bh]);go_simp;refine aQ W (by first | exact hx | (exact qM _ (fun b D=>bD.block b (he.gt.ps b (.inl D)).1) (bD.mono he.gt.lo.2.2))) fun Na=>?_
    clear W aj;refine rd 16 fun aj W=>?_
    (try simp only[bf,bg,bh]);go_simp;go_at_call 53;refine(Db _ b7).mono ?_;rintro e w1 ⟨g,cap,rfl,gX,no⟩;have bD:=K (Ad (a:=wr) b7 no);have gr:=K (he.below bD);have iv:=gr.fld;have ob:=gr.fz 1;have lA:=K (R7 gX);have Vx:=bD.size;clear gX no;go_wp2_with fail
    refine aQ W (by exact qM _ (fun b D=>bD.block b (he.gt.ps b (.inl D)).1) (bD.mono he.gt.lo.2.2)) fun kz=>?_
    clear W aj;refine rd 17 fun aj W=>?_
    refine step_append_lies _ rfl (.tmp 69) (.tmp 84) 35 rfl C 81 ev _ 2 16 Tryz.underlying35 eB fb em b8 rfl (by decide) u bx _ rfl gr.ow ⟨g,0,none⟩ lw cap ol rfl Hn lA C9 sQ cn cq gr.gt.lo.2.2 _ rfl ?_;intro mW Dj al bc br aO cj;have fV:=K (gr.push bc br aO cj);have f6:=fV.1;have h0:=fV.2.1 1;have cV:Hid (Below C wr al):=(bD.mono he.gt.lo.2.2).trans (jB br gr.gt.lo.2.2 (fun z ao=>(gr.ow.lt z ao).1));have vo:Hid (∀b,j0 b->al.heap[b]?=wr.heap[b]?):=fun b D=>(fV.2.2.1 b D).trans (bD.block b (he.gt.ps b (.inl D)).1)
    clear bc br aO cj;refine aQ W (by exact qM _ vo cV) fun xp=>?_
    clear W aj;refine R 18 ?_;refine rd 19 fun aj W=>?_
    (try simp only[bf,bg,bh]);go_simp;refine aQ W (by exact qM _ (fun b D=>(Below.heap_setCell _ _ _ _ (he.ap b D).1).trans (vo b D)) (cV.trans (abL he.lt (bL he.gt.lo.2.2 cV.size)))) fun Dr=>?_
    clear W aj;refine gn (by kernel_rfl) ?_ _;refine j8 ?_;generalize av:World.setCell al _ _=aH;have h5:=K (fV.2.2.2 aH av);have ub:Hid (i7 C wc aH E M aX 1 first hs j0 81 2 (.slice (some ⟨mW,0,none⟩) (bx+lw) Dj) (bx+lw) ((m7 wl (N.regs.take (k+1))).flatMap eA.cells)):=by
     show i7 _ _ _ _ _ _ _ _ _ _ _ _ _ _ _;rw[y5.out];exact h5
    clear y5;clear hx qM av f6 h0 iv ob lA gr bD fV cV vo h5 he rI Db;go_wp2;go_roundw
    case measure=>simp[intOf];omega
    exact⟨k+1,_,_,by omega,by simp,ub⟩
   refine j9 (o:=_) rfl (fun aj W=>?_) q6;(try simp only[bf,bg,bh]);go_simp;go_at_call 53;refine(Db _ b7).mono ?_;rintro e w1 ⟨g,cap,rfl,gX,no⟩;have bD:=K (Ad (a:=wr) b7 no);have gr:=K (he.below bD);have iv:=gr.fld;have ob:=gr.fz 1;have lA:=K (R7 gX);have Vx:=bD.size;clear gX no;go_wp2_with fail
   refine aQ W (by exact qM _ (fun b D=>bD.block b (he.gt.ps b (.inl D)).1) (bD.mono he.gt.lo.2.2)) fun kz=>?_
   clear W aj;refine rd 1 fun aj W=>?_
   (try simp only[bf,bg,bh]);go_simp;refine aQ W (by first | exact hx | (exact qM _ (fun b D=>bD.block b (he.gt.ps b (.inl D)).1) (bD.mono he.gt.lo.2.2))) fun Na=>?_
   clear W aj;refine rd 17 fun aj W=>?_
   refine step_append_lies _ rfl (.tmp 69) (.tmp 84) 35 rfl C 81 ev _ 2 16 Tryz.underlying35 eB fb em b8 rfl (by decide) u bx _ rfl gr.ow ⟨g,0,none⟩ lw cap ol rfl Hn lA C9 sQ cn cq gr.gt.lo.2.2 _ rfl ?_;intro mW Dj al bc br aO cj;have fV:=K (gr.push bc br aO cj);have f6:=fV.1;have h0:=fV.2.1 1;have cV:Hid (Below C wr al):=(bD.mono he.gt.lo.2.2).trans (jB br gr.gt.lo.2.2 (fun z ao=>(gr.ow.lt z ao).1));have vo:Hid (∀b,j0 b->al.heap[b]?=wr.heap[b]?):=fun b D=>(fV.2.2.1 b D).trans (bD.block b (he.gt.ps b (.inl D)).1)
   clear bc br aO cj;refine aQ W (by exact qM _ vo cV) fun xp=>?_
   clear W aj;refine R 18 ?_;refine rd 19 fun aj W=>?_
   (try simp only[bf,bg,bh]);go_simp;refine aQ W (by exact qM _ (fun b D=>(Below.heap_setCell _ _ _ _ (he.ap b D).1).trans (vo b D)) (cV.trans (abL he.lt (bL he.gt.lo.2.2 cV.size)))) fun Dr=>?_
   clear W aj;refine gn (by kernel_rfl) ?_ _;refine j8 ?_;generalize av:World.setCell al _ _=aH;have h5:=K (fV.2.2.2 aH av);have ub:Hid (i7 C wc aH E M aX 1 first hs j0 81 2 (.slice (some ⟨mW,0,none⟩) (bx+lw) Dj) (bx+lw) ((m7 wl (N.regs.take (k+1))).flatMap eA.cells)):=by
    show i7 _ _ _ _ _ _ _ _ _ _ _ _ _ _ _;rw[y5.out];exact h5
   clear y5;clear hx qM av f6 h0 iv ob lA gr bD fV cV vo h5 he rI Db;go_wp2;go_roundw
   case measure=>simp[intOf];omega
   exact⟨k+1,_,_,by omega,by simp,ub⟩
  ·have cQ:¬((k:Int)<(m:Int)):=by omega
   have ou:Hid (i7 C wc wr E M aX 1 first hs j0 81 2 u bx ((m7 wl N.regs).flatMap eA.cells)):=by
    have e:=he.out;rw[fQ (by have:=gT.out;omega)] at e;exact e
   clear he;go_wp2;exact dM _ ⟨_,_,ou⟩
theorem ae9 (ms:List (List (List Int))):sZ ms=ms.flatten.flatMap (fun l=>ju l 0):=by
 unfold sZ
 induction ms with
 | nil=>rfl
 | cons x r aA=>rw[List.flatMap_cons,aA,List.flatten_cons,s4]
theorem ak4 (C:Nat) (wc:World) (E M first aX m c:Nat) (a:Option Addr) (hs:List Z) (jO J6 j0:Nat->Prop) (ms:List (List (List Int))) (te:List eA) (u0:Value) (n0:Nat) (EV:Hid (i7 C wc wc E M aX 1 first hs j0 81 2 u0 n0 (te.flatMap eA.cells))) (Mf:Hid (∀j x,wc.cell? ⟨aX,j,none⟩=some (.int .i64 x)->j=0)) (Pt:Hid (MI jO J6 wc (.slice a m c) ms)) (Py:Hid (∀b,jO b->j0 b)) (nf:Hid (∀b,J6 b->b≠aX->j0 b)) (gT:Hid (m=ms.length)) (ae:m<=1048576) (rm:Hid (∀ws,ws∈ms->ws.length<=1048576∧∀l,l∈ws->0<l.length∧l.length<=64)) (w7:Hid (∀(hD Sa:List (List Int)),hD++Sa=ms.flatten->(te++hD.flatMap (fun l=>ju l 0)).length<=6000)) (b9:Act->World->Prop) (eV:Exit->Act->World->Prop) {bX dC en e1 e2 ea ec dL ep cz gy fS eF ex ey cM cA cB cC cD cS cT cH cW cX cY cN cI eo c7 dD dE dF dh dO dP dr dt di dj c8 c9 db dd de df dG dH du cZ c6 dw dx dQ dy dz dI dJ dK dk dl dm dn dR dS dT dU dV dW dX dY dZ d0 d3 d4 d5 d6 d7 d8 ei ed eR eS eT eU fy fA e3 e4 e5 e6 e7 fN fO fP fB fc fd fe ff fg fh fi fj fk eY eZ e0 fJ fK fL fl fm fo fp fq fs ft fu fv fw eH eI eJ eK eL gm f8 f9 ga gb gc gf gu gv:Value}
  (dM:Hid (∀(B:World) {OD xP Ew Ex Ey Ez EA EB EC Bn Bo AQ AR AU AV AW AX AY AZ A0:Value},(∃u n,i7 C wc B E M aX 1 first hs j0 81 2 u n ((te++sZ ms).flatMap eA.cells))->b9 ⟨#[bX,dC,en,e1,.pointer (some ⟨aX,0,none⟩),e2,ea,ec,dL,ep,OD,gy,xP,eF,ex,ey,cM,cA,cB,cC,cD,cS,cT,cH,cW,cX,cY,cN,cI,eo,c7,dD,dE,dF,dh,dO,dP,dr,dt,di,dj,c8,c9,db,dd,de,df,dG,dH,du,cZ,c6,dw,dx,dQ,dy,dz,dI,dJ,dK,dk,dl,dm,dn,dR,dS,dT,dU,dV,dW,dX,dY,dZ,d0,d3,d4,d5,d6,d7,d8,ei,ed,eR,eS,eT,eU,fy,fA,e3,.slice a m c,.int .i64 m,Ew,Ex,Ey,Ez,EA,EB,EC,Bn,Bo,AQ,AR,AU,AV,AW,AX,AY,AZ,A0,eY,eZ,e0,fJ,fK,fL,fl,fm,fo,fp,fq,fs,ft,fu,fv,fw,eH,eI,eJ,eK,eL,gm,f8,f9,ga,gb,gc,gf,gu,gv],[]⟩ B)) :
  Code.wp Tryz.prog ((Tryz.f27.body.bind (jh 4)).getD .skip) (Exit.then b9 eV) ⟨#[bX,dC,en,e1,.pointer (some ⟨aX,0,none⟩),e2,ea,ec,dL,ep,cz,gy,fS,eF,ex,ey,cM,cA,cB,cC,cD,cS,cT,cH,cW,cX,cY,cN,cI,eo,c7,dD,dE,dF,dh,dO,dP,dr,dt,di,dj,c8,c9,db,dd,de,df,dG,dH,du,cZ,c6,dw,dx,dQ,dy,dz,dI,dJ,dK,dk,dl,dm,dn,dR,dS,dT,dU,dV,dW,dX,dY,dZ,d0,d3,d4,d5,d6,d7,d8,ei,ed,eR,eS,eT,eU,fy,fA,e3,.slice a m c,.int .i64 m,.int .i64 0,e4,e5,e6,e7,fN,fO,fP,fB,fc,fd,fe,ff,fg,fh,fi,fj,fk,eY,eZ,e0,fJ,fK,fL,fl,fm,fo,fp,fq,fs,ft,fu,fv,fw,eH,eI,eJ,eK,eL,gm,f8,f9,ga,gb,gc,gf,gu,gv],[]⟩ wc:=by
 conv=>arg 2;whnf
 obtain⟨ev,eB,fb,em,b8⟩:=RJ
 change Hid _ at eB fb em b8
 go_wp2_with fail
 go_loopw [91] (fun aq B=>∃(i:Nat) (u:Value) (bx:Nat),i<=m∧aq = .int .i64 i∧Hid (i7 C wc B E M aX 1 first hs j0 81 2 u bx ((te++((ms.take i).flatten).flatMap (fun l=>ju l 0)).flatMap eA.cells))) (fun aq _=>m - (intOf aq).toNat)
 case atStart=>exact⟨0,u0,n0,cE _,rfl,by show i7 _ _ _ _ _ _ _ _ _ _ _ _ _ _ _;rw[List.take_zero,List.flatten_nil,List.flatMap_nil,List.append_nil];exact EV⟩
 case round =>
  clear EV;obtain⟨i,agB,bj,hi,rfl,tb⟩:=hrel;by_cases aB:i<m
  ·obtain⟨ws,hg⟩:=bS (l:=ms) (k:=i) (by have:=gT.out;omega);obtain⟨eP,mJ,aeq,lG⟩:=Pt.out;simp only[Value.slice.injEq] at aeq;obtain⟨rfl,-,rfl⟩:=aeq;obtain⟨b,o,b2,hT,c2,rfl,gK,ao9,jt,Iv⟩:=lG i ws hg;have za:wr.cell? ⟨b,o+i,none⟩=some (.slice (some ⟨b2,hT,none⟩) ws.length c2):=(dA (a:=⟨b,o+i,none⟩) (tb.kp.block b (Py b gK))).trans jt;have F3:=(rm ws (bn hg)).1;obtain⟨nw,mL⟩:=cf (ws.length);have oQ:=K mL;rw[<-mL] at za F3;have fa:(i:Int)<(m:Int):=by omega
   have bM:=bF ((i:Int)+1)
   change Hid _ at Iv hg
   clear lG jt mL;go_wp2_with fail
   clear za;go_loopw [97] (fun aq B=>∃(k:Nat) (u:Value) (bx:Nat),k<=nw∧aq = .int .i64 k∧Hid (i7 C wc B E M aX 1 first hs j0 81 2 u bx ((te++((ms.take i).flatten++ws.take k).flatMap (fun l=>ju l 0)).flatMap eA.cells))) (fun aq _=>nw - (intOf aq).toNat)
   case atStart=>exact⟨0,agB,bj,cE _,rfl,by show i7 _ _ _ _ _ _ _ _ _ _ _ _ _ _ _;rw[List.take_zero,List.append_nil];exact tb⟩
   case round =>
    clear tb;obtain⟨k,u,bx,X,rfl,he⟩:=hrel;by_cases Q8:k<nw
    ·obtain⟨l,hl⟩:=bS (l:=ws) (k:=k) (by have:=oQ.out;omega);obtain⟨y,aF,dg⟩:=Iv k l hl;obtain⟨oG,AP⟩:=(rm ws (bn hg)).2 l (bn hl);have N5:=dg.box Mf (fun b D ag=>he.kp.block b (nf b D ag)) (he.oth 0 (by decide));obtain⟨lC,mN,pk,rfl,-,-,qX⟩:=N5;have un:wr.cell? ⟨b2,hT+k,none⟩=some (.slice (some ⟨lC,mN,none⟩) l.length pk):=(dA (a:=⟨b2,hT+k,none⟩) (he.kp.block b2 (Py b2 ao9))).trans aF;have MG:Hid (∀v,V wr v->Calls Tryz.prog 53 #[.slice (some ⟨lC,mN,none⟩) l.length pk,.int .u64 (0:Nat)] v fun e B=>∃g cap,e = .returned (.slice (some ⟨g,0,none⟩) l.length cap)∧B.ownsRow v.heap.size 81 2 (.slice (some ⟨g,0,none⟩) l.length cap) l.length ((ju l 0).flatMap eA.cells)∧V v B):=fun v L =>
      aeZ v lC mN pk l 0 oG AP (by decide) (fun i y aF=>(L.cell (p:=⟨lC,mN+i,none⟩) (World.block_lt_of_cell? _ _ (qX i y aF))).trans (qX i y aF))
     have DS:((ms.take i).flatten++ws.take (k+1)).flatMap (fun l=>ju l 0)=((ms.take i).flatten++ws.take k).flatMap (fun l=>ju l 0)++ju l 0:=by
      rw[gM _ k _ hl,<-List.append_assoc,s4 (xs:=(ms.take i).flatten++ws.take k)];simp
     have Iz:(te++((ms.take i).flatten++ws.take (k+1)).flatMap (fun l=>ju l 0)).flatMap eA.cells=(te++((ms.take i).flatten++ws.take k).flatMap (fun l=>ju l 0)).flatMap eA.cells++(ju l 0).flatMap eA.cells:=by
      rw[DS,<-List.append_assoc,s4 (xs:=te++_)]
     have Aw:bx*2=((te++((ms.take i).flatten++ws.take k).flatMap (fun l=>ju l 0)).flatMap eA.cells).length:=he.ow.1.symm;rw[(Og _).1] at Aw;have ks:=w7 ((ms.take i).flatten++ws.take k) (ws.drop k++(ms.drop (i+1)).flatten) (by
      rw[List.append_assoc,<-List.append_assoc (ws.take k),List.take_append_drop]
      conv=>rhs;rw[<-List.take_append_drop i ms,List.flatten_append,List.drop_eq_getElem_cons (by have:=gT.out;omega),List.flatten_cons]
      have e:=(cr.1 hg).2;rw[e])
     have jt:=Og (ju l 0);rw[Of] at jt;have y5:=K Iz;have Hn:=K jt.1;have C9:=K jt.2;generalize (ju l 0).flatMap eA.cells=ol at *;generalize NH:l.length=lw at *;have Db:=MG;have sQ:0<lw:=oG;have cn:bx+lw<=maxLen:=by simp only[maxLen];omega
     have cq:(bx+lw)*16<=140737488355328:=by omega
     have rI:=he.fld;have aza:(k:Int)<(nw:Int):=by omega
     have lg:=bF ((k:Int)+1);clear hl aF dg oG AP qX DS Iz Aw ks jt MG NH;go_upto_region 22 with fail
     clear un;refine mR ?_;refine ih (S:=(fun _=>True)) (by kernel_rfl) (by trivial) (fun ii=>?_);refine R 0 ?_;refine R 2 ?_;refine wpAnyH_ready (rs:=[1,3]) (by kernel_rfl) (by simp) ?_;refine j9 (o:=_) rfl (fun aj W=>?_) ?_
     ·(try simp only[bf,bg,bh]);go_simp;refine aQ W trivial fun Na=>?_
      clear W aj;refine rd 3 fun aj W=>?_
      (try simp only[bf,bg,bh]);go_simp;go_at_call 53;refine(Db _ b7).mono ?_;rintro e w1 ⟨g,cap,rfl,gX,no⟩;have bD:=K (Ad (a:=wr) b7 no);have gr:=K (he.below bD);have iv:=gr.fld;have ob:=gr.fz 1;have lA:=K (R7 gX);have Vx:=bD.size;clear gX no;go_wp2_with fail
      refine aQ W (by trivial) fun kz=>?_
      clear W aj;refine rd 4 fun aj W=>?_
      refine step_append_lies _ rfl (.tmp 102) (.tmp 104) 35 rfl C 81 ev _ 2 16 Tryz.underlying35 eB fb em b8 rfl (by decide) u bx _ rfl gr.ow ⟨g,0,none⟩ lw cap ol rfl Hn lA C9 sQ cn cq gr.gt.lo.2.2 _ rfl ?_;intro mW Dj al bc br aO cj;have fV:=K (gr.push bc br aO cj);have f6:=fV.1;have h0:=fV.2.1 1;have cV:Hid (Below C wr al):=(bD.mono he.gt.lo.2.2).trans (jB br gr.gt.lo.2.2 (fun z ao=>(gr.ow.lt z ao).1));have vo:Hid (∀b,j0 b->al.heap[b]?=wr.heap[b]?):=fun b D=>(fV.2.2.1 b D).trans (bD.block b (he.gt.ps b (.inl D)).1)
      clear bc br aO cj;refine aQ W (by trivial) fun xp=>?_
      clear W aj;refine R 5 ?_;refine rd 6 fun aj W=>?_
      (try simp only[bf,bg,bh]);go_simp;refine aQ W trivial fun Dr=>?_
      clear W aj;refine gn (by kernel_rfl) ?_ _;refine j8 ?_;generalize av:World.setCell al _ _=aH;have h5:=K (fV.2.2.2 aH av);have ub:Hid (i7 C wc aH E M aX 1 first hs j0 81 2 (.slice (some ⟨mW,0,none⟩) (bx+lw) Dj) (bx+lw) ((te++((ms.take i).flatten++ws.take (k+1)).flatMap (fun l=>ju l 0)).flatMap eA.cells)):=by
       show i7 _ _ _ _ _ _ _ _ _ _ _ _ _ _ _;rw[y5.out];exact h5
      clear y5;clear av f6 h0 iv ob lA gr bD fV cV vo h5 he rI Db;go_wp2;go_roundw
      case measure=>simp[intOf];omega
      exact⟨k+1,_,_,by omega,by simp,ub⟩
     refine j9 (o:=_) rfl (fun aj W=>?_) q6;(try simp only[bf,bg,bh]);go_simp;go_at_call 53;refine(Db _ b7).mono ?_;rintro e w1 ⟨g,cap,rfl,gX,no⟩;have bD:=K (Ad (a:=wr) b7 no);have gr:=K (he.below bD);have iv:=gr.fld;have ob:=gr.fz 1;have lA:=K (R7 gX);have Vx:=bD.size;clear gX no;go_wp2_with fail
     refine aQ W (by trivial) fun kz=>?_
     clear W aj;refine rd 1 fun aj W=>?_
     (try simp only[bf,bg,bh]);go_simp;refine aQ W trivial fun Na=>?_
     clear W aj;refine rd 4 fun aj W=>?_
     refine step_append_lies _ rfl (.tmp 102) (.tmp 104) 35 rfl C 81 ev _ 2 16 Tryz.underlying35 eB fb em b8 rfl (by decide) u bx _ rfl gr.ow ⟨g,0,none⟩ lw cap ol rfl Hn lA C9 sQ cn cq gr.gt.lo.2.2 _ rfl ?_;intro mW Dj al bc br aO cj;have fV:=K (gr.push bc br aO cj);have f6:=fV.1;have h0:=fV.2.1 1;have cV:Hid (Below C wr al):=(bD.mono he.gt.lo.2.2).trans (jB br gr.gt.lo.2.2 (fun z ao=>(gr.ow.lt z ao).1));have vo:Hid (∀b,j0 b->al.heap[b]?=wr.heap[b]?):=fun b D=>(fV.2.2.1 b D).trans (bD.block b (he.gt.ps b (.inl D)).1)
     clear bc br aO cj;refine aQ W (by trivial) fun xp=>?_
     clear W aj;refine R 5 ?_;refine rd 6 fun aj W=>?_
     (try simp only[bf,bg,bh]);go_simp;refine aQ W trivial fun Dr=>?_
     clear W aj;refine gn (by kernel_rfl) ?_ _;refine j8 ?_;generalize av:World.setCell al _ _=aH;have h5:=K (fV.2.2.2 aH av);have ub:Hid (i7 C wc aH E M aX 1 first hs j0 81 2 (.slice (some ⟨mW,0,none⟩) (bx+lw) Dj) (bx+lw) ((te++((ms.take i).flatten++ws.take (k+1)).flatMap (fun l=>ju l 0)).flatMap eA.cells)):=by
      show i7 _ _ _ _ _ _ _ _ _ _ _ _ _ _ _;rw[y5.out];exact h5
     clear y5;clear av f6 h0 iv ob lA gr bD fV cV vo h5 he rI Db;go_wp2;go_roundw
     case measure=>simp[intOf];omega
     exact⟨k+1,_,_,by omega,by simp,ub⟩
    ·have adk:¬((k:Int)<(nw:Int)):=by omega
     have aiN:Hid (i7 C wc wr E M aX 1 first hs j0 81 2 u bx ((te++((ms.take (i+1)).flatten).flatMap (fun l=>ju l 0)).flatMap eA.cells)):=by
      show i7 _ _ _ _ _ _ _ _ _ _ _ _ _ _ _;have e:=he.out;rw[fQ (l:=ws) (by have:=oQ.out;omega)] at e;rw[gM _ i _ hg,List.flatten_append,List.flatten_singleton];exact e
     clear he;go_wp2;go_roundw
     case measure=>simp[intOf];omega
     exact⟨i+1,u,bx,by omega,by simp,aiN⟩
  ·have cQ:¬((i:Int)<(m:Int)):=by omega
   have ou:Hid (i7 C wc wr E M aX 1 first hs j0 81 2 agB bj ((te++sZ ms).flatMap eA.cells)):=by
    have e:=tb.out;rw[fQ (by have:=gT.out;omega)] at e;have aS:sZ ms=ms.flatten.flatMap (fun l=>ju l 0):=by
     exact ae9 ms
    rw[aS];exact e
   clear tb;go_wp2;exact dM _ ⟨_,_,ou⟩
end Go.Proofs.YtcbcenfjigcfkaaGreatDoor
