import Derived.Test.YtcbcenfjigcfkaaGreatDoorK16
import Derived.Laws.Bits64
import Derived.Laws.Bits64b
set_option maxRecDepth 100000
set_option maxHeartbeats 40000000
namespace Go.Proofs.YtcbcenfjigcfkaaGreatDoor
open Go.RowKit
theorem aqB (C:Nat) (wc:World) (E M ai ab first n c2:Nat) (a2:Option Addr) (Ps:Nat->Prop) (rs:List l4) (ns:List Nat) (rj:Hid (ns=rs.map fun r=>r.width.toNat)) (yl:Hid (∀r,r∈rs->1<=r.width∧r.width<=32)) (lz:Hid (kR C wc wc E M ai 3 first Ps Ps (.slice none 0 0) [] [])) (i0:wc.cell? ⟨ai,0,none⟩=some (.pointer (some ⟨E,0,none⟩))) (hR:wc.cell? ⟨ai,1,none⟩=some (.pointer (some ⟨ab,0,none⟩))) (ts:ab<C) (j3:wc.cell? ⟨ab,2,none⟩=some (.slice a2 n c2)) (bP:Hid (n=rs.length)) (bR:Hid (cm C wc a2 3 (rs.map l4.cells))) (ag:n<=1048576) (ch:Hid (∀k,first+(ns.take k).sum<=90000000)) (b9:Act->World->Prop) (eV:Exit->Act->World->Prop) {dC en e1 fx e2 ea ec dL ep cz gy fS cM cA cB cC cD cS cT cH cW cX cY cN cI eo c7 dD dE dF dh dO dP dr dt di dj c8 c9 db dd de df dG dH du cZ c6 dw dx dQ dy dz dI dJ dK dk dl dm dn dR dS dT dU dV dW dX dY dZ d0 d3 d4 d5 d6 d7 d8:Value}
  (dM:Hid (∀(B:World) {Bj Bh Bi Le Lf Lg Lh Li Gm Gn Gp Gq Cv Cw Gr Gs Lj Lk Ll Gt Gu Gv Cx Cy Cz Gw Gy:Value},(∃an u am,kR C wc B E M ai 3 (first+ns.sum) Ps an u (gL first ns) am)->b9 ⟨#[.pointer (some ⟨ai,0,none⟩),dC,Bj,e1,fx,e2,ea,ec,dL,ep,cz,gy,fS,.slice a2 n c2,.int .i64 n,Bh,Bi,Le,Lf,Lg,Lh,Li,Gm,Gn,Gp,Gq,Cv,Cw,Gr,Gs,Lj,Lk,Ll,Gt,Gu,Gv,Cx,Cy,Cz,Gw,Gy,c8,c9,db,dd,de,df,dG,dH,du,cZ,c6,dw,dx,dQ,dy,dz,dI,dJ,dK,dk,dl,dm,dn,dR,dS,dT,dU,dV,dW,dX,dY,dZ,d0,d3,d4,d5,d6,d7,d8],[]⟩ B)) :
  Code.wp Tryz.prog ((Tryz.f50.body.bind (jh 0)).getD .skip) (Exit.then b9 eV) ⟨#[.pointer (some ⟨ai,0,none⟩),dC,en,e1,fx,e2,ea,ec,dL,ep,cz,gy,fS,.slice a2 n c2,.int .i64 n,.int .i64 0,cM,cA,cB,cC,cD,cS,cT,cH,cW,cX,cY,cN,cI,eo,c7,dD,dE,dF,dh,dO,dP,dr,dt,di,dj,c8,c9,db,dd,de,df,dG,dH,du,cZ,c6,dw,dx,dQ,dy,dz,dI,dJ,dK,dk,dl,dm,dn,dR,dS,dT,dU,dV,dW,dX,dY,dZ,d0,d3,d4,d5,d6,d7,d8],[]⟩ wc:=by
 conv=>arg 2;whnf
 obtain⟨ev,eB,fb,em,b8⟩:=KU
 change Hid _ at eB fb em b8
 go_wp2_with fail
 go_loopw [15] (fun aq B=>∃(k:Nat) (an:Nat->Prop) (u:Value) (am:List Value),k<=n∧aq = .int .i64 k∧Hid (kR C wc B E M ai 3 (first+(ns.take k).sum) Ps an u (gL first (ns.take k)) am)) (fun aq _=>n - (intOf aq).toNat)
 case atStart=>exact⟨0,Ps,_,[],cE _,rfl,lz⟩
 case round =>
  obtain⟨k,an,u,am,X,rfl,l3⟩:=hrel;by_cases aB:k<n
  ·obtain⟨r,ak⟩:=bS (l:=rs) (k:=k) (by have:=bP.out;omega);obtain⟨bG,ck,kr,gK,cx⟩:=bR.el ak;have qw:=yl r (bn ak);obtain⟨m,ae⟩:∃m:Nat,r.width=(m:Int):=⟨r.width.toNat,by omega⟩
   have c0:wc.cell? ⟨bG,ck+k*3,none⟩=some (.int .i64 (m:Int)):=by have:=cx 0 (.int .i64 r.width) rfl;rw[ae] at this;simpa using this
   have c1:=(l3.kp.below.cell (p:=⟨bG,ck+k*3,none⟩) gK).trans c0;have eN:ns[k]?=some m:=by rw[rj.out,fT,ak];simp;omega
   have cO:=K eN;have aoy:m<=32:=by omega
   have VJ:=ch k;have lP:Hid (am.length=k):=by show _=_;rw[l3.el.1,K1,jx,rj.out,lb];have:=bP.out;omega
   have Nn:=(l3.oth 0 (by decide)).trans i0;have ayv:=(l3.oth 1 (by decide)).trans hR;have azm:=(l3.kp.below.cell (p:=⟨ab,2,none⟩) ts).trans j3;have VD:=l3.fld;have oy:Hid (∀v,V wr v->_):=fun v (L:V wr v)=>Xc C v E M (first+(ns.take k).sum) _ (l3.gt.to L) ai m (iP L Nn) (by omega) (by omega)
   have fa:(k:Int)<(n:Int):=by omega
   have bM:=bF ((k:Int)+1);generalize vA:(ns.take k).sum=hb at *
   change Hid _ at vA
   have cn:k+1<=maxLen:=by simp only[maxLen];omega
   have cq:(k+1)*24<=140737488355328:=by omega
   subst kr;clear ak cx c0 eN ae qw;go_upto_region 3 with fail
   refine nW ?_;refine ih (S:=(fun _=>True)) (by kernel_rfl) trivial (fun ii=>?_);refine R 0 ?_;refine R 1 ?_;refine R 2 ?_;refine R 3 ?_;refine R 5 ?_;refine R 6 ?_;refine R 7 ?_;refine R 8 ?_;refine R 13 ?_;refine wpAnyH_ready (rs:=[4,9]) (by kernel_rfl) (by simp) ?_;refine j9 (o:=_) rfl (fun aj W=>?_) ?_
   ·(try simp only[bf,bg,bh]);go_simp;refine aQ W trivial fun kU=>?_
    clear W aj;refine rd 9 fun aj W=>?_
    (try simp only[bf,bg,bh]);go_simp;refine aQ W trivial fun kU=>?_
    clear W aj;refine R 10 ?_;refine R 11 ?_;refine rd 12 fun aj W=>?_
    (try simp only[bf,bg,bh]);go_simp;refine aQ W trivial fun kU=>?_
    clear W aj;refine R 14 ?_;refine R 15 ?_;refine rd 16 fun aj W=>?_
    (try simp only[bf,bg,bh]);go_simp;refine aQ W trivial fun kU=>?_
    clear W aj;refine rd 17 fun aj W=>?_
    (try simp only[bf,bg,bh]);go_simp;go_at_call 71;refine(oy _ b7).mono ?_;rintro e w1 ⟨g,rfl,oE⟩;have eb:=K (l3.lay b7 oE);have iv:=eb.1.fld;have ob:=eb.1.fz 3;have rJ:=(eb.1.alloc (.cells #[.slice (some ⟨g,0,none⟩) m m] 22)).fld;have cJ:=eb.1.sz (.cells #[.slice (some ⟨g,0,none⟩) m m] 22);clear oE;go_wp2_with fail
    refine aQ W trivial fun kz=>?_
    clear W aj;refine rd 18 fun aj W=>?_
    (try simp only[bf,bg,bh]);go_simp;refine aQ W trivial fun kU=>?_
    clear W aj;refine rd 19 fun aj W=>?_
    refine step_append_lies _ rfl (.tmp 22) (.tmp 36) 99 rfl wc.heap.size 22 ev _ 1 24 Tryz.underlying99 eB fb em b8 rfl (by decide) u k _ rfl (lP.out▸eb.1.ow.alloc _) ⟨w1.heap.size,0,none⟩ 1 1 [.slice (some ⟨g,0,none⟩) m m] rfl rfl (i5 (h8 _ _)) (by simp[Value.oneCell']) (by decide) cn cq cJ _ rfl ?_;intro mW cap al bc br aO cj;have fV:=K (eb.1.push5 (cap:=cap) (x:= .slice (some ⟨g,0,none⟩) m m) (by rw[lP.out];exact bc) br aO cj);have f6:=fV.1;have h0:=fV.2.1;refine aQ W trivial fun xp=>?_
    clear W aj;refine R 20 ?_;refine R 21 ?_;refine rd 22 fun aj W=>?_
    (try simp only[bf,bg,bh]);go_simp;refine aQ W trivial fun kU=>?_
    clear W aj;refine gn (by kernel_rfl) ?_ _;refine gN.normal ?_;generalize av:World.setCell al _ _=aH;have kP:=K (fV.2.2 (kt (first+hb) m) aH eb.2 (by rw[lP.out];exact av));clear av f6 h0 iv rJ ob eb fV l3 oy bc br aO cj;have oP:Hid (∃ka g7 kj,kR C wc aH E M ai 3 (first+(ns.take (k+1)).sum) Ps ka g7 (gL first (ns.take (k+1))) kj):=by
     have bp:first+(ns.take (k+1)).sum=first+(ns.take k).sum+m:=by rw[gM ns k m cO,List.sum_append];simp;omega
     have aS:gL first (ns.take (k+1))=gL first (ns.take k)++[kt (first+(ns.take k).sum) m]:=by rw[gM ns k m cO,Cl];rfl
     rw[bp,aS,vA.out];exact⟨_,_,_,kP⟩
    clear kP;go_wp2;go_roundw
    case measure=>simp[intOf];omega
    case rel =>
     obtain⟨ka,g7,kj,hl⟩:=oP.out;exact⟨k+1,ka,g7,kj,by omega,by simp,hl⟩
   refine j9 (o:=_) rfl (fun aj W=>?_) q6;(try simp only[bf,bg,bh]);go_simp;refine aQ W trivial fun kU=>?_
   clear W aj;refine R 10 ?_;refine R 11 ?_;refine wpAnyH_ready (rs:=[4,12]) (by kernel_rfl) (by simp) ?_;refine j9 (o:=_) rfl (fun aj W=>?_) ?_
   ·(try simp only[bf,bg,bh]);go_simp;refine aQ W trivial fun kU=>?_
    clear W aj;refine rd 12 fun aj W=>?_
    (try simp only[bf,bg,bh]);go_simp;refine aQ W trivial fun kU=>?_
    clear W aj;refine R 14 ?_;refine R 15 ?_;refine rd 16 fun aj W=>?_
    (try simp only[bf,bg,bh]);go_simp;refine aQ W trivial fun kU=>?_
    clear W aj;refine rd 17 fun aj W=>?_
    (try simp only[bf,bg,bh]);go_simp;go_at_call 71;refine(oy _ b7).mono ?_;rintro e w1 ⟨g,rfl,oE⟩;have eb:=K (l3.lay b7 oE);have iv:=eb.1.fld;have ob:=eb.1.fz 3;have rJ:=(eb.1.alloc (.cells #[.slice (some ⟨g,0,none⟩) m m] 22)).fld;have cJ:=eb.1.sz (.cells #[.slice (some ⟨g,0,none⟩) m m] 22);clear oE;go_wp2_with fail
    refine aQ W trivial fun kz=>?_
    clear W aj;refine rd 18 fun aj W=>?_
    (try simp only[bf,bg,bh]);go_simp;refine aQ W trivial fun kU=>?_
    clear W aj;refine rd 19 fun aj W=>?_
    refine step_append_lies _ rfl (.tmp 22) (.tmp 36) 99 rfl wc.heap.size 22 ev _ 1 24 Tryz.underlying99 eB fb em b8 rfl (by decide) u k _ rfl (lP.out▸eb.1.ow.alloc _) ⟨w1.heap.size,0,none⟩ 1 1 [.slice (some ⟨g,0,none⟩) m m] rfl rfl (i5 (h8 _ _)) (by simp[Value.oneCell']) (by decide) cn cq cJ _ rfl ?_;intro mW cap al bc br aO cj;have fV:=K (eb.1.push5 (cap:=cap) (x:= .slice (some ⟨g,0,none⟩) m m) (by rw[lP.out];exact bc) br aO cj);have f6:=fV.1;have h0:=fV.2.1;refine aQ W trivial fun xp=>?_
    clear W aj;refine R 20 ?_;refine R 21 ?_;refine rd 22 fun aj W=>?_
    (try simp only[bf,bg,bh]);go_simp;refine aQ W trivial fun kU=>?_
    clear W aj;refine gn (by kernel_rfl) ?_ _;refine gN.normal ?_;generalize av:World.setCell al _ _=aH;have kP:=K (fV.2.2 (kt (first+hb) m) aH eb.2 (by rw[lP.out];exact av));clear av f6 h0 iv rJ ob eb fV l3 oy bc br aO cj;have oP:Hid (∃ka g7 kj,kR C wc aH E M ai 3 (first+(ns.take (k+1)).sum) Ps ka g7 (gL first (ns.take (k+1))) kj):=by
     have bp:first+(ns.take (k+1)).sum=first+(ns.take k).sum+m:=by rw[gM ns k m cO,List.sum_append];simp;omega
     have aS:gL first (ns.take (k+1))=gL first (ns.take k)++[kt (first+(ns.take k).sum) m]:=by rw[gM ns k m cO,Cl];rfl
     rw[bp,aS,vA.out];exact⟨_,_,_,kP⟩
    clear kP;go_wp2;go_roundw
    case measure=>simp[intOf];omega
    case rel =>
     obtain⟨ka,g7,kj,hl⟩:=oP.out;exact⟨k+1,ka,g7,kj,by omega,by simp,hl⟩
   refine j9 (o:=_) rfl (fun aj W=>?_) q6;(try simp only[bf,bg,bh]);go_simp;refine aQ W trivial fun kU=>?_
   clear W aj;refine R 14 ?_;refine R 15 ?_;refine wpAnyH_ready (rs:=[4,16]) (by kernel_rfl) (by simp) ?_;refine j9 (o:=_) rfl (fun aj W=>?_) ?_
   ·(try simp only[bf,bg,bh]);go_simp;refine aQ W trivial fun kU=>?_
    clear W aj;refine rd 16 fun aj W=>?_
    (try simp only[bf,bg,bh]);go_simp;refine aQ W trivial fun kU=>?_
    clear W aj;refine rd 17 fun aj W=>?_
    (try simp only[bf,bg,bh]);go_simp;go_at_call 71;refine(oy _ b7).mono ?_;rintro e w1 ⟨g,rfl,oE⟩;have eb:=K (l3.lay b7 oE);have iv:=eb.1.fld;have ob:=eb.1.fz 3;have rJ:=(eb.1.alloc (.cells #[.slice (some ⟨g,0,none⟩) m m] 22)).fld;have cJ:=eb.1.sz (.cells #[.slice (some ⟨g,0,none⟩) m m] 22);clear oE;go_wp2_with fail
    refine aQ W trivial fun kz=>?_
    clear W aj;refine rd 18 fun aj W=>?_
    (try simp only[bf,bg,bh]);go_simp;refine aQ W trivial fun kU=>?_
    clear W aj;refine rd 19 fun aj W=>?_
    refine step_append_lies _ rfl (.tmp 22) (.tmp 36) 99 rfl wc.heap.size 22 ev _ 1 24 Tryz.underlying99 eB fb em b8 rfl (by decide) u k _ rfl (lP.out▸eb.1.ow.alloc _) ⟨w1.heap.size,0,none⟩ 1 1 [.slice (some ⟨g,0,none⟩) m m] rfl rfl (i5 (h8 _ _)) (by simp[Value.oneCell']) (by decide) cn cq cJ _ rfl ?_;intro mW cap al bc br aO cj;have fV:=K (eb.1.push5 (cap:=cap) (x:= .slice (some ⟨g,0,none⟩) m m) (by rw[lP.out];exact bc) br aO cj);have f6:=fV.1;have h0:=fV.2.1;refine aQ W trivial fun xp=>?_
    clear W aj;refine R 20 ?_;refine R 21 ?_;refine rd 22 fun aj W=>?_
    (try simp only[bf,bg,bh]);go_simp;refine aQ W trivial fun kU=>?_
    clear W aj;refine gn (by kernel_rfl) ?_ _;refine gN.normal ?_;generalize av:World.setCell al _ _=aH;have kP:=K (fV.2.2 (kt (first+hb) m) aH eb.2 (by rw[lP.out];exact av));clear av f6 h0 iv rJ ob eb fV l3 oy bc br aO cj;have oP:Hid (∃ka g7 kj,kR C wc aH E M ai 3 (first+(ns.take (k+1)).sum) Ps ka g7 (gL first (ns.take (k+1))) kj):=by
     have bp:first+(ns.take (k+1)).sum=first+(ns.take k).sum+m:=by rw[gM ns k m cO,List.sum_append];simp;omega
     have aS:gL first (ns.take (k+1))=gL first (ns.take k)++[kt (first+(ns.take k).sum) m]:=by rw[gM ns k m cO,Cl];rfl
     rw[bp,aS,vA.out];exact⟨_,_,_,kP⟩
    clear kP;go_wp2;go_roundw
    case measure=>simp[intOf];omega
    case rel =>
     obtain⟨ka,g7,kj,hl⟩:=oP.out;exact⟨k+1,ka,g7,kj,by omega,by simp,hl⟩
   refine j9 (o:=_) rfl (fun aj W=>?_) q6;(try simp only[bf,bg,bh]);go_simp;refine aQ W trivial fun kU=>?_
   clear W aj;refine wpAnyH_ready (rs:=[4,17]) (by kernel_rfl) (by simp) ?_;refine j9 (o:=_) rfl (fun aj W=>?_) ?_
   ·(try simp only[bf,bg,bh]);go_simp;refine aQ W trivial fun kU=>?_
    clear W aj;refine rd 17 fun aj W=>?_
    (try simp only[bf,bg,bh]);go_simp;go_at_call 71;refine(oy _ b7).mono ?_;rintro e w1 ⟨g,rfl,oE⟩;have eb:=K (l3.lay b7 oE);have iv:=eb.1.fld;have ob:=eb.1.fz 3;have rJ:=(eb.1.alloc (.cells #[.slice (some ⟨g,0,none⟩) m m] 22)).fld;have cJ:=eb.1.sz (.cells #[.slice (some ⟨g,0,none⟩) m m] 22);clear oE;go_wp2_with fail
    refine aQ W trivial fun kz=>?_
    clear W aj;refine rd 18 fun aj W=>?_
    (try simp only[bf,bg,bh]);go_simp;refine aQ W trivial fun kU=>?_
    clear W aj;refine rd 19 fun aj W=>?_
    refine step_append_lies _ rfl (.tmp 22) (.tmp 36) 99 rfl wc.heap.size 22 ev _ 1 24 Tryz.underlying99 eB fb em b8 rfl (by decide) u k _ rfl (lP.out▸eb.1.ow.alloc _) ⟨w1.heap.size,0,none⟩ 1 1 [.slice (some ⟨g,0,none⟩) m m] rfl rfl (i5 (h8 _ _)) (by simp[Value.oneCell']) (by decide) cn cq cJ _ rfl ?_;intro mW cap al bc br aO cj;have fV:=K (eb.1.push5 (cap:=cap) (x:= .slice (some ⟨g,0,none⟩) m m) (by rw[lP.out];exact bc) br aO cj);have f6:=fV.1;have h0:=fV.2.1;refine aQ W trivial fun xp=>?_
    clear W aj;refine R 20 ?_;refine R 21 ?_;refine rd 22 fun aj W=>?_
    (try simp only[bf,bg,bh]);go_simp;refine aQ W trivial fun kU=>?_
    clear W aj;refine gn (by kernel_rfl) ?_ _;refine gN.normal ?_;generalize av:World.setCell al _ _=aH;have kP:=K (fV.2.2 (kt (first+hb) m) aH eb.2 (by rw[lP.out];exact av));clear av f6 h0 iv rJ ob eb fV l3 oy bc br aO cj;have oP:Hid (∃ka g7 kj,kR C wc aH E M ai 3 (first+(ns.take (k+1)).sum) Ps ka g7 (gL first (ns.take (k+1))) kj):=by
     have bp:first+(ns.take (k+1)).sum=first+(ns.take k).sum+m:=by rw[gM ns k m cO,List.sum_append];simp;omega
     have aS:gL first (ns.take (k+1))=gL first (ns.take k)++[kt (first+(ns.take k).sum) m]:=by rw[gM ns k m cO,Cl];rfl
     rw[bp,aS,vA.out];exact⟨_,_,_,kP⟩
    clear kP;go_wp2;go_roundw
    case measure=>simp[intOf];omega
    case rel =>
     obtain⟨ka,g7,kj,hl⟩:=oP.out;exact⟨k+1,ka,g7,kj,by omega,by simp,hl⟩
   refine j9 (o:=_) rfl (fun aj W=>?_) q6;(try simp only[bf,bg,bh]);go_simp;go_at_call 71;refine(oy _ b7).mono ?_;rintro e w1 ⟨g,rfl,oE⟩;have eb:=K (l3.lay b7 oE);have iv:=eb.1.fld;have ob:=eb.1.fz 3;have rJ:=(eb.1.alloc (.cells #[.slice (some ⟨g,0,none⟩) m m] 22)).fld;have cJ:=eb.1.sz (.cells #[.slice (some ⟨g,0,none⟩) m m] 22);clear oE;go_wp2_with fail
   refine aQ W trivial fun kz=>?_
   clear W aj;refine wpAnyH_ready (rs:=[4,18]) (by kernel_rfl) (by simp) ?_;refine j9 (o:=_) rfl (fun aj W=>?_) ?_
   ·(try simp only[bf,bg,bh]);go_simp;refine aQ W trivial fun kU=>?_
    clear W aj;refine rd 18 fun aj W=>?_
    (try simp only[bf,bg,bh]);go_simp;refine aQ W trivial fun kU=>?_
    clear W aj;refine rd 19 fun aj W=>?_
    refine step_append_lies _ rfl (.tmp 22) (.tmp 36) 99 rfl wc.heap.size 22 ev _ 1 24 Tryz.underlying99 eB fb em b8 rfl (by decide) u k _ rfl (lP.out▸eb.1.ow.alloc _) ⟨w1.heap.size,0,none⟩ 1 1 [.slice (some ⟨g,0,none⟩) m m] rfl rfl (i5 (h8 _ _)) (by simp[Value.oneCell']) (by decide) cn cq cJ _ rfl ?_;intro mW cap al bc br aO cj;have fV:=K (eb.1.push5 (cap:=cap) (x:= .slice (some ⟨g,0,none⟩) m m) (by rw[lP.out];exact bc) br aO cj);have f6:=fV.1;have h0:=fV.2.1;refine aQ W trivial fun xp=>?_
    clear W aj;refine R 20 ?_;refine R 21 ?_;refine rd 22 fun aj W=>?_
    (try simp only[bf,bg,bh]);go_simp;refine aQ W trivial fun kU=>?_
    clear W aj;refine gn (by kernel_rfl) ?_ _;refine gN.normal ?_;generalize av:World.setCell al _ _=aH;have kP:=K (fV.2.2 (kt (first+hb) m) aH eb.2 (by rw[lP.out];exact av));clear av f6 h0 iv rJ ob eb fV l3 oy bc br aO cj;have oP:Hid (∃ka g7 kj,kR C wc aH E M ai 3 (first+(ns.take (k+1)).sum) Ps ka g7 (gL first (ns.take (k+1))) kj):=by
     have bp:first+(ns.take (k+1)).sum=first+(ns.take k).sum+m:=by rw[gM ns k m cO,List.sum_append];simp;omega
     have aS:gL first (ns.take (k+1))=gL first (ns.take k)++[kt (first+(ns.take k).sum) m]:=by rw[gM ns k m cO,Cl];rfl
     rw[bp,aS,vA.out];exact⟨_,_,_,kP⟩
    clear kP;go_wp2;go_roundw
    case measure=>simp[intOf];omega
    case rel =>
     obtain⟨ka,g7,kj,hl⟩:=oP.out;exact⟨k+1,ka,g7,kj,by omega,by simp,hl⟩
   refine j9 (o:=_) rfl (fun aj W=>?_) q6;(try simp only[bf,bg,bh]);go_simp;refine aQ W trivial fun kU=>?_
   clear W aj;refine rd 4 fun aj W=>?_
   (try simp only[bf,bg,bh]);go_simp;refine aQ W trivial fun kU=>?_
   clear W aj;refine rd 19 fun aj W=>?_
   refine step_append_lies _ rfl (.tmp 22) (.tmp 36) 99 rfl wc.heap.size 22 ev _ 1 24 Tryz.underlying99 eB fb em b8 rfl (by decide) u k _ rfl (lP.out▸eb.1.ow.alloc _) ⟨w1.heap.size,0,none⟩ 1 1 [.slice (some ⟨g,0,none⟩) m m] rfl rfl (i5 (h8 _ _)) (by simp[Value.oneCell']) (by decide) cn cq cJ _ rfl ?_;intro mW cap al bc br aO cj;have fV:=K (eb.1.push5 (cap:=cap) (x:= .slice (some ⟨g,0,none⟩) m m) (by rw[lP.out];exact bc) br aO cj);have f6:=fV.1;have h0:=fV.2.1;refine aQ W trivial fun xp=>?_
   clear W aj;refine R 20 ?_;refine R 21 ?_;refine rd 22 fun aj W=>?_
   (try simp only[bf,bg,bh]);go_simp;refine aQ W trivial fun kU=>?_
   clear W aj;refine gn (by kernel_rfl) ?_ _;refine gN.normal ?_;generalize av:World.setCell al _ _=aH;have kP:=K (fV.2.2 (kt (first+hb) m) aH eb.2 (by rw[lP.out];exact av));clear av f6 h0 iv rJ ob eb fV l3 oy bc br aO cj;have oP:Hid (∃ka g7 kj,kR C wc aH E M ai 3 (first+(ns.take (k+1)).sum) Ps ka g7 (gL first (ns.take (k+1))) kj):=by
    have bp:first+(ns.take (k+1)).sum=first+(ns.take k).sum+m:=by rw[gM ns k m cO,List.sum_append];simp;omega
    have aS:gL first (ns.take (k+1))=gL first (ns.take k)++[kt (first+(ns.take k).sum) m]:=by rw[gM ns k m cO,Cl];rfl
    rw[bp,aS,vA.out];exact⟨_,_,_,kP⟩
   clear kP;go_wp2;go_roundw
   case measure=>simp[intOf];omega
   case rel =>
    obtain⟨ka,g7,kj,hl⟩:=oP.out;exact⟨k+1,ka,g7,kj,by omega,by simp,hl⟩
  ·have cQ:¬((k:Int)<(n:Int)):=by omega
   have hB:ns.take k=ns:=fQ (by rw[rj.out,lb];have:=bP.out;omega);have re:=K l3;rw[hB] at re;clear hB;go_wp2;exact dM _ ⟨an,u,am,re⟩
def ju (l:List Int) (x:Nat):List eA:=l.zipIdx.map fun p=>⟨p.1,decide (x / 2^p.2%2=1)⟩
theorem Of (l:List Int) (x:Nat):(ju l x).length=l.length:=by unfold ju;simp
theorem aqt {l:List Int} {k:Nat} {a:Int} (h:l[k]?=some a) (x:Nat):ju (l.take (k+1)) x=ju (l.take k) x++[⟨a,decide (x / 2^k%2=1)⟩]:=by
 have X:=(cr.1 h).1;unfold ju;rw[gM l k a h,List.zipIdx_append,g1,jx,Nat.min_eq_left (by omega)];simp
theorem apV:(Tryz.prog.info? 81).map (fun i=>(i.zero,i.size,i.bytes))=some (some (.agg #[.int .i64 0,.bool false]),2,16):=by kernel_rfl
theorem RJ:∃i,Tryz.prog.info? 81=some i∧i.zero=some (.agg #[.int .i64 0,.bool false])∧i.size=2∧i.bytes=16:=by
 have h:=apV;cases hi:Tryz.prog.info? 81 with
 | none=>rw[hi] at h;cases h
 | some i=>rw[hi] at h;simp at h;exact⟨i,rfl,h.1,h.2.1,h.2.2⟩
theorem aeZ (w:World) (b o c:Nat) (l:List Int) (x:Nat) (cb:0<l.length) (ag:l.length<=64) (J:x<18446744073709551616) (ar:∀(i:Nat) (y:Int),l[i]?=some y->w.cell? ⟨b,o+i,none⟩=some (.int .i64 y)) :
  Calls Tryz.prog 53 #[.slice (some ⟨b,o,none⟩) l.length c,.int .u64 x] w fun e B=>∃g cap,e = .returned (.slice (some ⟨g,0,none⟩) l.length cap)∧B.ownsRow w.heap.size 81 2 (.slice (some ⟨g,0,none⟩) l.length cap) l.length ((ju l x).flatMap eA.cells)∧V w B:=by
 obtain⟨ev,eB,fb,em,b8⟩:=RJ;obtain⟨n,bP⟩:∃n,Hid (n=l.length):=⟨_,rfl⟩
 rw[<-bP.out] at ag cb ⊢
 change Hid _ at eB fb em b8 ar
 go_enter Tryz.func53,Tryz.ntmps53
 go_wp2_with fail
 go_loopw [5,10] (fun eP aq B=>∃(k:Nat),k<=n∧aq = .int .i64 k∧Hid (B.ownsRow w.heap.size 81 2 eP k ((ju (l.take k) x).flatMap eA.cells))∧Hid (V w B)) (fun _ aq _=>n - (intOf aq).toNat)
 case atStart=>exact⟨0,cE _,rfl,k8 _ _ _ _,ax _ _⟩
 case round =>
  obtain⟨k,X,rfl,a6,aD⟩:=hrel;by_cases aB:k<n
  ·obtain⟨y,aF⟩:=bS (l:=l) (k:=k) (by have:=bP.out;omega);have un:=iP aD (ar k y aF);have bW:=K (aqt aF x);have bp:bits BinOp.and IntKind.u64 (((x / 2^k:Nat):Int)) 1=((x / 2^k%2:Nat):Int):=by
    have:=u64_and_nat (x / 2^k) 1 (Nat.lt_of_le_of_lt (Nat.div_le_self _ _) J) (by decide)
    rw[Nat.and_one_is_mod] at this;exact this
   have lg:((x:Int)) / (2^k)=((x / 2^k:Nat):Int):=by simp
   have jY:Hid (∀d,d=x / 2^k->(((d:Int)%2==1)=decide (x / 2^k%2=1))):=fun d U=>by
    rw[U,iI];simp;omega
   obtain⟨d,U⟩:=cf (x / 2^k);have Tb:=K (jY d U);rw[<-U] at bp lg;obtain⟨HK,ac4⟩:=cf (decide (x / 2^k%2=1));rw[<-ac4] at Tb bW;have VG:=Tb.out;have fa:(k:Int)<(n:Int):=by omega
   have bM:=bF ((k:Int)+1);have cn:k+1<=maxLen:=by simp only[maxLen];omega
   have cq:(k+1)*16<=140737488355328:=by omega
   have cJ:w.heap.size<=(wr.alloc (.cells #[.int .i64 y,.bool HK] 81)).heap.size:=by have:=aD.size;simp;omega
   have tok:True:=trivial;clear aF U ac4 jY Tb;go_upto_region 5 with fail
   go_wp2_with (have _t:=tok;at_builtin;(refine wpList_append_lies _ rfl (.tmp 15) (.tmp 23) 35 rfl w.heap.size 81 ev _ 2 16 Tryz.underlying35 eB fb em b8 rfl (by decide) u5 k _ rfl (a6.alloc _) ⟨wr.heap.size,0,none⟩ 1 1 [.int .i64 y,.bool HK] rfl rfl (i5 (h8 _ _)) (by simp[Value.oneCell']) (by decide) cn cq cJ _ rfl ?_;intro g cap al bc br aO cj;have Hl:=K bc;have cV:Hid (V w al):=(aD.alloc aD.size _).grown br cJ (fun z ao=>(a6.lt z ao).1);clear tok bc br aO cj))
   have hM:Hid (al.ownsRow w.heap.size 81 2 (.slice (some ⟨g,0,none⟩) (k+1) cap) (k+1) ((ju (l.take (k+1)) x).flatMap eA.cells)):=by
    show World.ownsRow _ _ _ _ _ _ _;rw[bW.out,s4];exact Hl
   go_wp2;go_roundw
   case measure=>simp[intOf];omega
   exact⟨k+1,by omega,by simp,hM.out,cV⟩
  ·have cQ:¬((k:Int)<(n:Int)):=by omega
   have hB:k=n:=by omega
   subst hB;have re:Hid (wr.ownsRow w.heap.size 81 2 u5 k ((ju l x).flatMap eA.cells)):=by
    have:=a6.out
    rw[fQ (by have:=bP.out;omega)] at this;exact this
   obtain⟨g,cap,bb,-,-⟩:=re.form cb;subst bb;go_wp2;go_ret
   exact⟨g,cap,rfl,re.out,aD⟩
theorem agA:∀(n:Int),0<=n->n<2^64->IntKind.u64.wrap n=n:=fun n aI F=>qD n aI (by omega)
theorem aqX (n:Nat):i3 (n:Int)=(2:Int)^n - 1:=by
 unfold i3;rw[vg];push_cast;rfl
theorem BN (a n:Nat) (ad:a<18446744073709551616) (ag:n<=32):bits BinOp.and IntKind.u64 (a:Int) (i3 (n:Int))=((a%2^n:Nat):Int):=by
 rw[aqX,bits_mask .u64 64 (by decide) agA n (by omega) (a:Int) (by omega) (by omega)]
 push_cast;rfl
theorem Uj (a b:Nat) (ad:a<18446744073709551616) (D:b<18446744073709551616):bits BinOp.and IntKind.u64 (a:Int) (b:Int)=((a&&& b:Nat):Int):=bits_and_u64_nat a b ad D
theorem atw (a b:Nat) (ad:a<18446744073709551616) (D:b<18446744073709551616):bits BinOp.or IntKind.u64 (a:Int) (b:Int)=((a||| b:Nat):Int):=bits_or_u64_nat a b ad D
theorem YI (a b:Nat) (ad:a<18446744073709551616) (D:b<18446744073709551616):bits BinOp.xor IntKind.u64 (a:Int) (b:Int)=((a ^^^ b:Nat):Int):=bits_xor_u64_nat a b ad D
theorem akn (a b:Nat):IntKind.u64.wrap ((a:Int)+(b:Int))=(((a+b)%18446744073709551616:Nat):Int):=by
 rw[IntKind.wrap_u64];omega
theorem auV (a b:Nat) (D:b<18446744073709551616):IntKind.u64.wrap ((a:Int) - (b:Int))=(((a+(18446744073709551616 - b))%18446744073709551616:Nat):Int):=by
 rw[IntKind.wrap_u64];omega
theorem afe (a b:Nat):IntKind.u64.wrap ((a:Int)*(b:Int))=(((a*b)%18446744073709551616:Nat):Int):=by
 rw[IntKind.wrap_u64,<-Int.natCast_mul];generalize a*b=m;omega
theorem acg (x n:Nat):(x:Int) / 2^n=((x / 2^n:Nat):Int):=by push_cast;rfl
theorem agj (x n:Nat):IntKind.u64.wrap ((x:Int)*2^n)=(((x*2^n)%18446744073709551616:Nat):Int):=by
 have e:((2:Int)^n)=((2^n:Nat):Int):=by push_cast;rfl
 rw[e,afe]
theorem awS (a b:Nat) (ad:a<18446744073709551616) (D:b<18446744073709551616):a ^^^ b<18446744073709551616:=Nat.xor_lt_two_pow (n:=64) ad D
def n6 (b:Bool):Nat:=if b then 1 else 0
def um (ps:List (Nat×Nat)):Nat:=ps.foldl (fun v p=>v*2^p.2+p.1) 0
theorem ab3 {ps:List (Nat×Nat)} {k:Nat} {p:Nat×Nat} (h:ps[k]?=some p):um (ps.take (k+1))=um (ps.take k)*2^p.2+p.1:=by
 unfold um;rw[List.take_add_one,h,List.foldl_append];rfl
theorem als {v s a w:Nat} (L:v<2^s) (ad:a<2^w):v*2^w+a<2^(s+w):=by
 rw[Nat.pow_add];have F:(v+1)*2^w<=2^s*2^w:=Nat.mul_le_mul_right _ L;rw[Nat.add_mul,Nat.one_mul] at F;omega
theorem Uu (ps:List (Nat×Nat)) (h:∀p,p∈ps->p.1<2^p.2):um ps<2^(ps.map (·.2)).sum:=by
 unfold um;have am0:∀(l:List (Nat×Nat)),(∀p,p∈l->p.1<2^p.2)->∀v s,v<2^s->l.foldl (fun v p=>v*2^p.2+p.1) v<2^(s+(l.map (·.2)).sum):=by
  intro l
  induction l with
  | nil=>intro _ v s L;simpa using L
  | cons p r aA =>
   intro aE v s L
   have:=aA (fun q aJ=>aE q (qd _ aJ)) (v*2^p.2+p.1) (s+p.2) (als L (aE p qe))
   simp only[List.foldl_cons,List.map_cons,List.sum_cons];rw[<-Nat.add_assoc];exact this
 have:=am0 ps h 0 0 (by decide)
 simpa using this
def xM:Nat->Nat->Nat
 | 0,_=>0
 | f+1,v=>(v%2) ^^^ xM f (v / 2)
theorem afw (f:Nat):xM f 0=0:=by
 induction f with
 | zero=>rfl
 | succ f aA=>simp[xM,aA]
theorem as0 (f v:Nat):xM f v<2:=by
 induction f generalizing v with
 | zero=>simp[xM]
 | succ f aA=>exact Nat.xor_lt_two_pow (n:=1) (by omega) (aA _)
theorem Sp (b:Bool) (w:World):Calls Tryz.prog 88 #[.bool b] w fun e B=>e = .returned (.int .u64 (n6 b:Nat))∧B=w:=by
 cases b
 all_goals
  go_enter Tryz.func88,Tryz.ntmps88
  go_wp2;go_ret
  exact⟨rfl,rfl⟩
def abU (kind:Int) (x y:Nat):Nat :=
 if kind=12 then x&&& y else if kind=13 then x||| y else if kind=14 then x ^^^ y
 else if kind=15 then (x+y)%18446744073709551616 else if kind=16 then (x+(18446744073709551616 - y))%18446744073709551616 else if kind=17 then (x*y)%18446744073709551616
 else if kind=18 then (x*2^(min y 64))%18446744073709551616 else if kind=19 then x / 2^(min y 64)
 else if kind=20 then n6 (decide (x=y)) else n6 (decide (x<y))
theorem au1 (l:List Nat) (k:Nat):(l.take k).sum<=l.sum:=by
 induction l generalizing k with
 | nil=>simp
 | cons a r aA =>
  cases k with
  | zero=>simp
  | succ k=>simp only[List.take_succ_cons,List.sum_cons];have:=aA k;omega
theorem ab2 (ps:List (Nat×Nat)) (h:∀p,p∈ps->p.1<2^p.2) (hs:(ps.map (·.2)).sum<=32) (k:Nat):um (ps.take k)<4294967296:=by
 have F:=Uu (ps.take k) (fun p aE=>h p (su aE));have O:((ps.take k).map (·.2)).sum<=32:=by
  rw[List.map_take];exact bL (au1 _ k) hs
 exact bk F (q7 (n:=2) (by decide) O)
theorem atc (w:World) (width:Nat) (bT:1<=width) (gp:width<=32) (num:Nat) (bJ cP es ca:Nat) (aK aQ:Nat) (ps:List (Nat×Nat)) (aU:ps.length<cd) (rG:Hid (∀p,p∈ps->p.1<2^p.2)) (apB:Hid (∀p,p∈ps->p.2<=32)) (hs:(ps.map (·.2)).sum<=32) (f5:Hid (∀(i:Nat) (p:Nat×Nat),ps[i]?=some p->w.cell? ⟨bJ,cP+i,none⟩=some (.int .u64 (p.1:Int)))) (jr:Hid (∀(i:Nat) (p:Nat×Nat),ps[i]?=some p->w.cell? ⟨aK,aQ+i,none⟩=some (.int .i64 (p.2:Int)))) :
  Calls Tryz.prog 65 #[.int .i64 7,.int .i64 width,.int .u64 num,.slice (some ⟨bJ,cP,none⟩) ps.length es,.slice (some ⟨aK,aQ,none⟩) ps.length ca] w fun e B=>e = .returned (.int .u64 ((um ps%2^width:Nat):Int))∧∃q,B=w.drewN q:=by
 have hP:Hid (∀w,Calls Tryz.prog 19 #[.int .i64 (width:Int)] w fun e B=>e = .returned (.int .u64 (i3 (width:Int)))∧B=w):=fun w=>oe (width:Int) (by simp[cL];omega) w
 obtain⟨EG,jp⟩:∃EG,Hid (um ps%2^width=EG):=⟨_,rfl⟩
 rw[jp.out];have ay6:(ps.length:Int)<17592186044416:=by simp only[cd] at aU;omega
 go_enter Tryz.func65,Tryz.ntmps65
 go_wp2_with (go_at_call 19;refine(hP _).mono ?_;rintro e B ⟨rfl,aV⟩;subst B)
 go_loopw [12,13] (fun s i B=>∃(k c:Nat),k<=ps.length∧i = .int .i64 (k:Int)∧s = .int .u64 (c:Int)∧Hid (c=um (ps.take k))∧Hid (∃q,B=w.drewN q)) (fun _ i _=>ps.length - (intOf i).toNat)
 case atStart=>exact⟨0,0,cE _,rfl,rfl,by show _=_;simp[um],⟨0,rfl⟩⟩
 case round =>
  obtain⟨k,c,X,rfl,rfl,gC,iY⟩:=hrel;have ar:=ab2 ps rG hs k;rw[<-gC.out] at ar;by_cases aB:k<ps.length
  ·obtain⟨p,aE⟩:∃p,ps[k]?=some p:=⟨ps[k],ct aB⟩
   have Wj:=rG p (bn aE);have apy:=apB p (bn aE);have ag:=ab2 ps rG hs (k+1);rw[ab3 aE,<-gC.out] at ag;have bP:Hid (um (ps.take (k+1))=c*2^p.2+p.1):=by show _=_;rw[ab3 aE,<-gC.out]
   obtain⟨q,rfl⟩:=iY.out;have es:=f5 k p aE;have ca:=jr k p aE;have fa:(k:Int)<(ps.length:Int):=by omega
   have aS:=bF ((k:Int)+1);obtain⟨x,v⟩:=p;simp only at *;have bM:IntKind.u64.wrap (v:Int)=(v:Int):=qD _ (by omega) (by omega);have QA:(v:Int)<=64:=by omega
   have amh:c*2^v%18446744073709551616=c*2^v:=Nat.mod_eq_of_lt (by omega);have lg:IntKind.u64.wrap ((c:Int)*2^v)=(c:Int)*2^v:=by rw[agj,amh];push_cast;rfl
   have l8:bits BinOp.or IntKind.u64 ((c:Int)*2^v) (x:Int)=(c:Int)*2^v+(x:Int):=by
    have J:(x:Int)<2^v:=by
     have e:((2:Int)^v)=((2^v:Nat):Int):=by push_cast;rfl
     rw[e];omega
    have:=bits_join .u64 64 (by decide) agA v ((c*2^v:Nat):Int) (x:Int) (by omega) (by push_cast;exact Int.mul_emod_left _ _) (by omega) (by omega) J (by omega)
    push_cast at this
    exact this
   clear gC jp aE Wj apy;go_wp2_with fail
   go_quiet (fail)
   go_wp2;go_roundw
   case measure=>simp[intOf];omega
   exact⟨k+1,c*2^v+x,by omega,by simp,by simp,bP.symm,⟨_,rfl⟩⟩
  ·have cQ:¬((k:Int)<(ps.length:Int)):=by omega
   have e:c=um ps:=by rw[gC.out,fQ (by omega)]
   have bp:bits BinOp.and IntKind.u64 (c:Int) (i3 (width:Int))=(EG:Int):=by rw[BN c width (by omega) gp,e,jp.out]
   obtain⟨q,rfl⟩:=iY.out;clear gC jp e;go_wp2;go_ret
   exact⟨rfl,_,rfl⟩
end Go.Proofs.YtcbcenfjigcfkaaGreatDoor
