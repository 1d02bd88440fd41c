import Derived.Test.YtcbcenfjigcfkaaGreatDoorK37
set_option maxRecDepth 100000
set_option maxHeartbeats 40000000
namespace Go.Proofs.YtcbcenfjigcfkaaGreatDoor
open Go.RowKit
theorem aqm (wc:World) (G:eq) (jl:List Bool) (Q8:jl.length=G.lats.length) (bm:Nat->Nat) (Y n ni bl E g ab D hc nB:Nat) (a:Option Addr) (c:Nat) (mg:wc.cell? ⟨bl,0,none⟩=some (.pointer (some ⟨E,0,none⟩))) (s1:wc.cell? ⟨bl,1,none⟩=some (.slice (some ⟨g,0,none⟩) n n)) (Bj:wc.cell? ⟨E,0,none⟩=some (.int .i64 (ni:Int))) (jU:bl<wc.heap.size) (lh:E<wc.heap.size) (af:g<wc.heap.size) (aph:bl≠D) (ayO:E≠D) (aok:g≠D) (pt:1+ni+G.lats.length<=n) (gT:Hid (∀(i:Nat) (b:Bool),jl[i]?=some b->wc.cell? ⟨g,1+ni+i,none⟩=some (.bool b))) (fH:wc.cell? ⟨ab,0,none⟩=some (.slice (some ⟨hc,0,none⟩) n nB)) (cR:ab<wc.heap.size) (adO:ab≠D) (bR:Hid (cm Y wc a 2 (G.lats.map eA.cells))) (HU:Y<=wc.heap.size) (acH:Y<=D) (bO:∀z,z∈G.lats->0<=z.next∧z.next<2*(n:Int)) (ag:n<=100000000) (aU:G.lats.length<=100000000) (uD:D<wc.heap.size) (It:hc<wc.heap.size) (aem:hc≠D) (jp:Hid (∀v,v<n->wc.cell? ⟨hc,v,none⟩=some (.int .i64 (bm v:Nat))∧bm v<=100000000)) (aJ:wc.cell? ⟨D,1,none⟩=some (.slice none 0 0)) (qs:∀j,wc.frozen? ⟨D,j,none⟩=false) (b9:Act->World->Prop) (eV:Exit->Act->World->Prop) {dC en e1 fx e2 ea ep cz gy fS eF ex ey cM cA cB cC cD cS cT cH cW cX cY cN cI eo c7 dD dE dF dh dO dP dr dt di dj c8 c9 db dd de df dG dH du cZ c6 dw dx dI dJ dK dk dl dm dn dR dS dT dU dV dW dX dY dZ d0 d3 d4 d5 d6 d7 d8 ei ed eR eS eT eU fy fA e3 fM fC fD e4 e5 e6 e7 fN fO fP fB fc fd fe ff fg fh fi fj fk eY eZ e0 fJ fK fL fl fm fo fp fq fs ft fu fv fw eH eI eJ eK eL gm f8 f9 ga gb gc gf gu gv hE hj hk hm hn ho hp hq hr ht hu hv hw hd:Value}
  (dM:Hid (∀(B:World) {X4 OD OG OH OI I8 I9 Ja Jb Jc vM vN vO vP vQ vR vS vT vU vV vW vX vY vZ v1 v2 yR Bk X0 X1 X2 X3 Bl Bm Eu Ev:Value},(∃u,B.cell? ⟨D,1,none⟩=some u∧B.ownsRow wc.heap.size 81 2 u (i2 bm jl G.lats (G.lats.length)).length ((i2 bm jl G.lats (G.lats.length)).flatMap eA.cells))∧wc.grownBy B (some D)∧(∀j,j≠1->B.cell? ⟨D,j,none⟩=wc.cell? ⟨D,j,none⟩)∧(∀j,B.frozen? ⟨D,j,none⟩=false)->b9 ⟨#[.pointer (some ⟨bl,0,none⟩),dC,en,e1,fx,e2,ea,.func (.func 84) #[] #[.pointer (some ⟨ab,0,none⟩)],.pointer (some ⟨D,0,none⟩),X4,OD,gy,fS,eF,ex,ey,cM,cA,cB,cC,cD,cS,cT,cH,cW,cX,cY,cN,cI,eo,c7,dD,dE,dF,dh,dO,dP,dr,dt,di,dj,c8,c9,db,dd,de,df,dG,dH,du,cZ,c6,dw,dx,.slice a G.lats.length c,.int .i64 (G.lats.length:Int),OG,OH,OI,I8,I9,Ja,Jb,Jc,vM,vN,vO,vP,vQ,vR,vS,vT,vU,vV,vW,vX,vY,vZ,v1,v2,yR,Bk,X0,X1,X2,X3,Bl,Bm,Eu,Ev,fC,fD,e4,e5,e6,e7,fN,fO,fP,fB,fc,fd,fe,ff,fg,fh,fi,fj,fk,eY,eZ,e0,fJ,fK,fL,fl,fm,fo,fp,fq,fs,ft,fu,fv,fw,eH,eI,eJ,eK,eL,gm,f8,f9,ga,gb,gc,gf,gu,gv,hE,hj,hk,hm,hn,ho,hp,hq,hr,ht,hu,hv,hw,hd],[]⟩ B)) :
  Code.wp Tryz.prog ((Tryz.f57.body.bind (jh 2)).getD .skip) (Exit.then b9 eV) ⟨#[.pointer (some ⟨bl,0,none⟩),dC,en,e1,fx,e2,ea,.func (.func 84) #[] #[.pointer (some ⟨ab,0,none⟩)],.pointer (some ⟨D,0,none⟩),ep,cz,gy,fS,eF,ex,ey,cM,cA,cB,cC,cD,cS,cT,cH,cW,cX,cY,cN,cI,eo,c7,dD,dE,dF,dh,dO,dP,dr,dt,di,dj,c8,c9,db,dd,de,df,dG,dH,du,cZ,c6,dw,dx,.slice a G.lats.length c,.int .i64 (G.lats.length:Int),.int .i64 0,dI,dJ,dK,dk,dl,dm,dn,dR,dS,dT,dU,dV,dW,dX,dY,dZ,d0,d3,d4,d5,d6,d7,d8,ei,ed,eR,eS,eT,eU,fy,fA,e3,fM,fC,fD,e4,e5,e6,e7,fN,fO,fP,fB,fc,fd,fe,ff,fg,fh,fi,fj,fk,eY,eZ,e0,fJ,fK,fL,fl,fm,fo,fp,fq,fs,ft,fu,fv,fw,eH,eI,eJ,eK,eL,gm,f8,f9,ga,gb,gc,gf,gu,gv,hE,hj,hk,hm,hn,ho,hp,hq,hr,ht,hu,hv,hw,hd],[]⟩ wc:=by
 conv=>arg 2;whnf
 obtain⟨ev,eB,fb,em,b8⟩:=RJ
 change Hid _ at eB fb em b8
 go_wp2_with fail
 go_loopw [56] (fun aq B=>∃(k:Nat) (u:Value),k<=G.lats.length∧aq = .int .i64 k∧Hid (B.cell? ⟨D,1,none⟩=some u)∧Hid (B.ownsRow wc.heap.size 81 2 u (i2 bm jl G.lats (k)).length ((i2 bm jl G.lats (k)).flatMap eA.cells))∧Hid (wc.grownBy B (some D))∧Hid (∀j,B.frozen? ⟨D,j,none⟩=false)∧Hid (∀j,j≠1->B.cell? ⟨D,j,none⟩=wc.cell? ⟨D,j,none⟩)) (fun aq _=>G.lats.length - (intOf aq).toNat)
 case atStart=>exact⟨0,_,cE _,rfl,aJ,k8 _ _ _ _,qQ _ _,qs,fun _ _=>rfl⟩
 case round =>
  obtain⟨k,u,X,rfl,rk,a6,cc,ch,lN⟩:=hrel;by_cases aB:k<G.lats.length
  ·obtain⟨z,ao⟩:∃z,G.lats[k]?=some z:=bS aB;obtain⟨b,iK⟩:∃b,jl[k]?=some b:=bS (by omega);have zT:=K (aeQ bm jl G.lats k z b ao iK);obtain⟨bG,ck,bQ,gK,cx⟩:=bR.el ao;subst bQ;obtain⟨z,yW⟩:=z;have qw:bG<wc.heap.size:=bk gK HU;have c1:wr.cell? ⟨bG,ck+k*2,none⟩=some (.int .i64 z):=(cc.cell_far _ qw (by simp;omega)).trans (cx 0 _ rfl);have c2:wr.cell? ⟨bG,ck+k*2+1,none⟩=some (.bool yW):=(cc.cell_far _ qw (by simp;omega)).trans (cx 1 _ rfl);have vD:=bO _ (bn ao);simp only at vD zT;have gY:=cc.size;have fa:(k:Int)<(G.lats.length:Int):=by omega
   go_upto_region 15 with fail
   generalize kA:World.alloc wr _=eQ;obtain⟨kE,pr⟩:=cf (wr.heap.size);have mF:Hid (wr.grownBy eQ u.ownBlock):=by rw[<-kA];exact jj _ _ _
   have pb:Hid (V wr eQ):=by rw[<-kA];exact(ax _ _).alloc (aL _) _
   have jg:Hid (eQ.cell? ⟨kE,0,none⟩=some (.int .i64 z)∧eQ.cell? ⟨kE,1,none⟩=some (.bool yW)):=by
    rw[<-kA,pr];exact⟨ja rfl,ja rfl⟩
   have adv:kE<eQ.heap.size:=by rw[<-kA,pr];simp
   have qX:wc.heap.size<=kE:=by omega
   have V0:wr.heap.size<=kE:=by omega
   rw[<-pr];have rx:∀x,x<wc.heap.size->some x≠u.ownBlock:=fun x J e=>by have:=(a6.lt x e.symm).1;omega
   have kT:eQ.cell? ⟨bl,0,none⟩=some (.pointer (some ⟨E,0,none⟩)):=(mF.cell_far ⟨bl,0,none⟩ (by show bl<_;omega) (rx bl jU)).trans ((cc.cell_far ⟨bl,0,none⟩ jU (by simp;omega)).trans mg);have bY:eQ.cell? ⟨bl,1,none⟩=some (.slice (some ⟨g,0,none⟩) n n):=(mF.cell_far ⟨bl,1,none⟩ (by show bl<_;omega) (rx bl jU)).trans ((cc.cell_far ⟨bl,1,none⟩ jU (by simp;omega)).trans s1);have bK:eQ.cell? ⟨E,0,none⟩=some (.int .i64 (ni:Int)):=(mF.cell_far ⟨E,0,none⟩ (by show E<_;omega) (rx E lh)).trans ((cc.cell_far ⟨E,0,none⟩ lh (by simp;omega)).trans Bj);have h7:eQ.cell? ⟨g,1+ni+k,none⟩=some (.bool b):=(mF.cell_far ⟨g,1+ni+k,none⟩ (by show g<_;omega) (rx g af)).trans ((cc.cell_far ⟨g,1+ni+k,none⟩ af (by simp;omega)).trans (gT k b iK));clear kA pr c1 c2;have HP:=bF ((1:Int)+(ni:Int));obtain⟨q0,FN⟩:=cf (1+ni+k);rw[<-FN] at h7;have HQ:IntKind.i64.wrap ((1:Int)+(ni:Int)+(k:Int))=(q0:Int):=by rw[mj _ (by omega) (by omega)];omega
   have zp:(q0:Int)<(n:Int):=by omega
   have sT:q0<=300000000:=by omega
   clear FN;have bM:=bF ((k:Int)+1);cases b
   ·have ez:Hid (i2 bm jl G.lats (k+1)=i2 bm jl G.lats k):=by
     show _=_;rw[zT.out];simp
    have Mg:Hid (∀m,wr.grownBy (eQ.drewN m) u.ownBlock):=fun m=>⟨mF.os,mF.tape,mF.output,mF.size,mF.block⟩
    have ajg:Hid (∀m,(eQ.drewN m).ownsRow wc.heap.size 81 2 u (i2 bm jl G.lats (k+1)).length ((i2 bm jl G.lats (k+1)).flatMap eA.cells)):=fun m=>by
     show World.ownsRow _ _ _ _ _ _ _;rw[ez.out];exact mx (mx a6 pb) (Below.drewN (ax _ _) _)
    have ajD:Hid (∀m,(eQ.drewN m).cell? ⟨D,1,none⟩=some u):=fun m=>((Mg m).cell_far ⟨D,1,none⟩ (by show D<_;omega) (rx D uD)).trans rk.out
    have aiM:Hid (∀m j,(eQ.drewN m).frozen? ⟨D,j,none⟩=false):=fun m j=>((Mg m).frozen_far ⟨D,j,none⟩ (by show D<_;omega) (rx D uD)).trans (ch j)
    have aiQ:Hid (∀m j,j≠1->(eQ.drewN m).cell? ⟨D,j,none⟩=wc.cell? ⟨D,j,none⟩):=fun m j aT=>((Mg m).cell_far ⟨D,j,none⟩ (by show D<_;omega) (rx D uD)).trans (lN j aT)
    have Po:Hid (∀m,wc.grownBy (eQ.drewN m) (some D)):=fun m=>Al cc (Mg m) (qQ _ _) (fun x J=>(a6.lt x J).1)
    clear zT ez Mg jg pb mF a6 rk ch lN cc cx ao vD iK;go_quiet (fail)
    go_wp2;go_roundw
    case measure=>simp[intOf];omega
    exact⟨k+1,u,by omega,by simp,ajD _,ajg _,Po _,aiM _,aiQ _⟩
   ·go_quiet (fail)
    go_upto_region 16 with fail
    generalize xt:World.drewN eQ _=gS;have ld:Hid (wr.grownBy gS u.ownBlock):=by rw[<-xt];exact⟨mF.os,mF.tape,mF.output,mF.size,mF.block⟩
    have ape:eQ.heap.size<=gS.heap.size:=by rw[<-xt];exact aL _
    have ji:gS.cell? ⟨kE,0,none⟩=some (.int .i64 z):=by rw[<-xt];exact jg.1
    have fY:gS.cell? ⟨kE,1,none⟩=some (.bool yW):=by rw[<-xt];exact jg.2
    have JO:Hid (gS.ownsRow wc.heap.size 81 2 u (i2 bm jl G.lats (k)).length ((i2 bm jl G.lats (k)).flatMap eA.cells)):=by
     rw[<-xt];exact mx (mx a6 pb) (Below.drewN (ax _ _) _)
    obtain⟨cnt,qI⟩:∃n,Hid ((i2 bm jl G.lats k).length=n):=⟨_,rfl⟩
    have VC:cnt<=k:=by rw[<-qI.out,W6 _ _ _ _ Q8];exact bL List.count_le_length (by simp;omega)
    have hN:Hid (gS.ownsRow wc.heap.size 81 2 u cnt ((i2 bm jl G.lats k).flatMap eA.cells)):=by
     show World.ownsRow _ _ _ _ _ _ _;rw[<-qI.out];exact JO
    have DM:gS.cell? ⟨D,1,none⟩=some u:=(ld.cell_far ⟨D,1,none⟩ (by show D<_;omega) (rx D uD)).trans rk.out;have JG:Hid (∀j,gS.frozen? ⟨D,j,none⟩=false):=fun j=>(ld.frozen_far ⟨D,j,none⟩ (by show D<_;omega) (rx D uD)).trans (ch j)
    have z7:Hid (Calls Tryz.prog 84 #[.int .i64 z,.pointer (some ⟨ab,0,none⟩)] gS.drew fun e B=>e = .returned (.int .i64 (je bm z))∧B=gS.drew) :=
     Sg gS.drew ab hc nB n bm ((ld.cell_far ⟨ab,0,none⟩ (by show ab<_;omega) (rx ab cR)).trans ((cc.cell_far ⟨ab,0,none⟩ cR (by simp;omega)).trans fH)) ag (fun v L=>⟨(ld.cell_far ⟨hc,v,none⟩ (by show hc<_;omega) (rx hc It)).trans ((cc.cell_far ⟨hc,v,none⟩ It (by simp;omega)).trans (jp v L).1),(jp v L).2⟩) z vD.1 vD.2
    have bW:Hid (i2 bm jl G.lats (k+1)=i2 bm jl G.lats k++[⟨je bm z,yW⟩]):=by
     show _=_;rw[zT.out];rfl
    generalize je bm z=lt at *;have cn:cnt+1<=maxLen:=by simp only[maxLen];omega
    have cq:(cnt+1)*16<=140737488355328:=by omega
    have cJ:wc.heap.size<=((gS.alloc (.cells #[.int .i64 lt,.bool yW] 81)).drew).heap.size:=by simp;omega
    have gj:kE≠D:=by omega
    have N0:some kE≠u.ownBlock:=fun e=>by have:=(a6.lt kE e.symm).2;omega
    clear cx ao vD iK zT JO xt mF jg kT bY bK h7 a6 rk HP HQ zp sT;have bb:=DM;have l2:Hid (∀B,gS.grownBy B u.ownBlock->B.cell? ⟨D,1,none⟩=some u):=fun B af=>(af.cell_far ⟨D,1,none⟩ (by show D<_;omega) (rx D uD)).trans DM
    have aN:Hid (∀B,gS.grownBy B u.ownBlock->B.cell? ⟨kE,0,none⟩=some (.int .i64 z)∧B.cell? ⟨kE,1,none⟩=some (.bool yW)):=fun B af=>⟨(af.cell_far ⟨kE,0,none⟩ (by show kE<_;omega) N0).trans ji,(af.cell_far ⟨kE,1,none⟩ (by show kE<_;omega) N0).trans fY⟩
    have lQ:Hid (∀B,gS.grownBy B u.ownBlock->∀j,B.frozen? ⟨D,j,none⟩=false):=fun B af j=>(af.frozen_far ⟨D,j,none⟩ (by show D<_;omega) (rx D uD)).trans (JG j)
    have yI:(gS.alloc (.cells #[.int .i64 lt,.bool yW] 81)).cell? ⟨D,1,none⟩=some u:=l2 _ (jj _ _ _);clear DM JG;refine mR ?_;refine ih (S:=(fun B=>B.cell? ⟨kE,0,none⟩=some (.int .i64 z)∧B.cell? ⟨kE,1,none⟩=some (.bool yW))) (by kernel_rfl) (by(first | assumption | exact⟨ji,fY⟩ | exact aN _ (iZ _ _ _) | exact aN _ (jj _ _ _) | exact aN _ (by assumption) | exact⟨(ce _ _ _ _ (fun e=>gj (Eq.symm e))).trans (aN _ aZ).1,(ce _ _ _ _ (fun e=>gj (Eq.symm e))).trans (aN _ aZ).2⟩)) (fun ii=>?_);refine R 0 ?_;refine R 2 ?_;refine R 3 ?_;refine R 4 ?_;refine R 6 ?_;refine R 7 ?_;refine wpAnyH_ready (rs:=[1,5]) (by kernel_rfl) (by simp) ?_;refine j9 (o:=_) rfl (fun aj W=>?_) ?_
    ·(try simp only[bf,bg,bh]);go_simp;refine aQ W (by(first | assumption | exact⟨ji,fY⟩ | exact aN _ (iZ _ _ _) | exact aN _ (jj _ _ _) | exact aN _ (by assumption) | exact⟨(ce _ _ _ _ (fun e=>gj (Eq.symm e))).trans (aN _ aZ).1,(ce _ _ _ _ (fun e=>gj (Eq.symm e))).trans (aN _ aZ).2⟩)) fun oC=>?_
     clear W aj;refine rd 5 fun aj W=>?_
     (try simp only[bf,bg,bh]);go_simp;go_at_call 84;refine z7.mono ?_;rintro e w2 ⟨rfl,rfl⟩;go_wp2_with fail
     refine aQ W (by(first | assumption | exact⟨ji,fY⟩ | exact aN _ (iZ _ _ _) | exact aN _ (jj _ _ _) | exact aN _ (by assumption) | exact⟨(ce _ _ _ _ (fun e=>gj (Eq.symm e))).trans (aN _ aZ).1,(ce _ _ _ _ (fun e=>gj (Eq.symm e))).trans (aN _ aZ).2⟩)) fun Kq=>?_
     clear W aj;refine R 8 ?_;refine rd 9 fun aj W=>?_
     (try simp only[bf,bg,bh]);go_simp;refine aQ W (by(first | assumption | exact⟨ji,fY⟩ | exact aN _ (iZ _ _ _) | exact aN _ (jj _ _ _) | exact aN _ (by assumption) | exact⟨(ce _ _ _ _ (fun e=>gj (Eq.symm e))).trans (aN _ aZ).1,(ce _ _ _ _ (fun e=>gj (Eq.symm e))).trans (aN _ aZ).2⟩)) fun M9=>?_
     clear W aj;refine rd 10 fun aj W=>?_
     refine step_append_lies _ rfl (.tmp 78) (.tmp 86) 35 rfl wc.heap.size 81 ev _ 2 16 Tryz.underlying35 eB fb em b8 rfl (by decide) u cnt _ rfl (hN.alloc _).drew ⟨gS.heap.size,0,none⟩ 1 1 [.int .i64 lt,.bool yW] rfl rfl (i5 (h8 _ _)) (by simp[Value.oneCell']) (by decide) cn cq cJ _ rfl ?_;intro bY cap al bc br aO cj;have aZ:=js (iZ _ _ _) br;have f6:=l2 al aZ;have h0:=lQ al aZ 1;refine aQ W (by(first | assumption | exact⟨ji,fY⟩ | exact aN _ (iZ _ _ _) | exact aN _ (jj _ _ _) | exact aN _ (by assumption) | exact⟨(ce _ _ _ _ (fun e=>gj (Eq.symm e))).trans (aN _ aZ).1,(ce _ _ _ _ (fun e=>gj (Eq.symm e))).trans (aN _ aZ).2⟩)) fun Dq=>?_
     clear W aj;refine R 11 ?_;refine rd 12 fun aj W=>?_
     (try simp only[bf,bg,bh]);go_simp;refine aQ W (by(first | assumption | exact⟨ji,fY⟩ | exact aN _ (iZ _ _ _) | exact aN _ (jj _ _ _) | exact aN _ (by assumption) | exact⟨(ce _ _ _ _ (fun e=>gj (Eq.symm e))).trans (aN _ aZ).1,(ce _ _ _ _ (fun e=>gj (Eq.symm e))).trans (aN _ aZ).2⟩)) fun Vc=>?_
     clear W aj;refine gn (by kernel_rfl) ?_ _;refine j8 ?_;generalize gz:World.setCell al _ _=aH;have n3:Hid (aH.cell? ⟨D,1,none⟩=some (.slice (some ⟨bY,0,none⟩) (cnt+1) cap)):=by rw[<-gz];exact on (h:=f6) ..
     have nH:Hid (∀j,aH.frozen? ⟨D,j,none⟩=false):=by rw[<-gz];exact fun j=>(s6 _ _ _ _).trans (lQ al aZ j)
     have hG:al.grownBy aH (some D):=by rw[<-gz];exact oW _ _ _ _
     have jK:bY≠D:=fun e=>by
      rcases aO with h | h
      ·have:=(hN.lt bY h).1;omega
      ·simp at h;omega
     have hM:Hid (aH.ownsRow wc.heap.size 81 2 (.slice (some ⟨bY,0,none⟩) (cnt+1) cap) (i2 bm jl G.lats (k+1)).length ((i2 bm jl G.lats (k+1)).flatMap eA.cells)):=by
      have:=bc.kept hG (.inr (fun e=>jK (by cases e;rfl)))
      show World.ownsRow _ _ _ _ _ _ _;rw[bW.out,jw,s4,qI.out];exact this
     have h5:Hid (wc.grownBy aH (some D)):=Al cc (js ld aZ) hG (fun x J=>(hN.lt x J).1);have rh:Hid (∀j,j≠1->aH.cell? ⟨D,j,none⟩=wc.cell? ⟨D,j,none⟩):=fun j aT=>by
      rw[<-gz];refine(oL (h:=fun e=>aT (by cases e;rfl)) ..).trans ?_;exact((js ld aZ).cell_far ⟨D,j,none⟩ (by show D<_;omega) (fun e=>by have:=(hN.lt D e.symm).1;omega)).trans (lN j aT)
     clear gz hG jK bc br aO cj aZ f6 h0 hN cc lN ch l2 aN lQ bW bb yI z7 ld;go_wp2;go_roundw
     case measure=>simp[intOf];omega
     exact⟨k+1,_,by omega,by simp,n3.out,hM.out,h5.out,nH.out,rh⟩
    refine j9 (o:=_) rfl (fun aj W=>?_) q6;(try simp only[bf,bg,bh]);go_simp;go_at_call 84;refine z7.mono ?_;rintro e w2 ⟨rfl,rfl⟩;go_wp2_with fail
    refine aQ W (by(first | assumption | exact⟨ji,fY⟩ | exact aN _ (iZ _ _ _) | exact aN _ (jj _ _ _) | exact aN _ (by assumption) | exact⟨(ce _ _ _ _ (fun e=>gj (Eq.symm e))).trans (aN _ aZ).1,(ce _ _ _ _ (fun e=>gj (Eq.symm e))).trans (aN _ aZ).2⟩)) fun Kq=>?_
    clear W aj;refine R 8 ?_;refine wpAnyH_ready (rs:=[1,9]) (by kernel_rfl) (by simp) ?_;refine j9 (o:=_) rfl (fun aj W=>?_) ?_
    ·(try simp only[bf,bg,bh]);go_simp;refine aQ W (by(first | assumption | exact⟨ji,fY⟩ | exact aN _ (iZ _ _ _) | exact aN _ (jj _ _ _) | exact aN _ (by assumption) | exact⟨(ce _ _ _ _ (fun e=>gj (Eq.symm e))).trans (aN _ aZ).1,(ce _ _ _ _ (fun e=>gj (Eq.symm e))).trans (aN _ aZ).2⟩)) fun oC=>?_
     clear W aj;refine rd 9 fun aj W=>?_
     (try simp only[bf,bg,bh]);go_simp;refine aQ W (by(first | assumption | exact⟨ji,fY⟩ | exact aN _ (iZ _ _ _) | exact aN _ (jj _ _ _) | exact aN _ (by assumption) | exact⟨(ce _ _ _ _ (fun e=>gj (Eq.symm e))).trans (aN _ aZ).1,(ce _ _ _ _ (fun e=>gj (Eq.symm e))).trans (aN _ aZ).2⟩)) fun M9=>?_
     clear W aj;refine rd 10 fun aj W=>?_
     refine step_append_lies _ rfl (.tmp 78) (.tmp 86) 35 rfl wc.heap.size 81 ev _ 2 16 Tryz.underlying35 eB fb em b8 rfl (by decide) u cnt _ rfl (hN.alloc _).drew ⟨gS.heap.size,0,none⟩ 1 1 [.int .i64 lt,.bool yW] rfl rfl (i5 (h8 _ _)) (by simp[Value.oneCell']) (by decide) cn cq cJ _ rfl ?_;intro bY cap al bc br aO cj;have aZ:=js (iZ _ _ _) br;have f6:=l2 al aZ;have h0:=lQ al aZ 1;refine aQ W (by(first | assumption | exact⟨ji,fY⟩ | exact aN _ (iZ _ _ _) | exact aN _ (jj _ _ _) | exact aN _ (by assumption) | exact⟨(ce _ _ _ _ (fun e=>gj (Eq.symm e))).trans (aN _ aZ).1,(ce _ _ _ _ (fun e=>gj (Eq.symm e))).trans (aN _ aZ).2⟩)) fun Dq=>?_
     clear W aj;refine R 11 ?_;refine rd 12 fun aj W=>?_
     (try simp only[bf,bg,bh]);go_simp;refine aQ W (by(first | assumption | exact⟨ji,fY⟩ | exact aN _ (iZ _ _ _) | exact aN _ (jj _ _ _) | exact aN _ (by assumption) | exact⟨(ce _ _ _ _ (fun e=>gj (Eq.symm e))).trans (aN _ aZ).1,(ce _ _ _ _ (fun e=>gj (Eq.symm e))).trans (aN _ aZ).2⟩)) fun Vc=>?_
     clear W aj;refine gn (by kernel_rfl) ?_ _;refine j8 ?_;generalize gz:World.setCell al _ _=aH;have n3:Hid (aH.cell? ⟨D,1,none⟩=some (.slice (some ⟨bY,0,none⟩) (cnt+1) cap)):=by rw[<-gz];exact on (h:=f6) ..
     have nH:Hid (∀j,aH.frozen? ⟨D,j,none⟩=false):=by rw[<-gz];exact fun j=>(s6 _ _ _ _).trans (lQ al aZ j)
     have hG:al.grownBy aH (some D):=by rw[<-gz];exact oW _ _ _ _
     have jK:bY≠D:=fun e=>by
      rcases aO with h | h
      ·have:=(hN.lt bY h).1;omega
      ·simp at h;omega
     have hM:Hid (aH.ownsRow wc.heap.size 81 2 (.slice (some ⟨bY,0,none⟩) (cnt+1) cap) (i2 bm jl G.lats (k+1)).length ((i2 bm jl G.lats (k+1)).flatMap eA.cells)):=by
      have:=bc.kept hG (.inr (fun e=>jK (by cases e;rfl)))
      show World.ownsRow _ _ _ _ _ _ _;rw[bW.out,jw,s4,qI.out];exact this
     have h5:Hid (wc.grownBy aH (some D)):=Al cc (js ld aZ) hG (fun x J=>(hN.lt x J).1);have rh:Hid (∀j,j≠1->aH.cell? ⟨D,j,none⟩=wc.cell? ⟨D,j,none⟩):=fun j aT=>by
      rw[<-gz];refine(oL (h:=fun e=>aT (by cases e;rfl)) ..).trans ?_;exact((js ld aZ).cell_far ⟨D,j,none⟩ (by show D<_;omega) (fun e=>by have:=(hN.lt D e.symm).1;omega)).trans (lN j aT)
     clear gz hG jK bc br aO cj aZ f6 h0 hN cc lN ch l2 aN lQ bW bb yI z7 ld;go_wp2;go_roundw
     case measure=>simp[intOf];omega
     exact⟨k+1,_,by omega,by simp,n3.out,hM.out,h5.out,nH.out,rh⟩
    refine j9 (o:=_) rfl (fun aj W=>?_) q6;(try simp only[bf,bg,bh]);go_simp;refine aQ W (by(first | assumption | exact⟨ji,fY⟩ | exact aN _ (iZ _ _ _) | exact aN _ (jj _ _ _) | exact aN _ (by assumption) | exact⟨(ce _ _ _ _ (fun e=>gj (Eq.symm e))).trans (aN _ aZ).1,(ce _ _ _ _ (fun e=>gj (Eq.symm e))).trans (aN _ aZ).2⟩)) fun M9=>?_
    clear W aj;refine rd 1 fun aj W=>?_
    (try simp only[bf,bg,bh]);go_simp;refine aQ W (by(first | assumption | exact⟨ji,fY⟩ | exact aN _ (iZ _ _ _) | exact aN _ (jj _ _ _) | exact aN _ (by assumption) | exact⟨(ce _ _ _ _ (fun e=>gj (Eq.symm e))).trans (aN _ aZ).1,(ce _ _ _ _ (fun e=>gj (Eq.symm e))).trans (aN _ aZ).2⟩)) fun oC=>?_
    clear W aj;refine rd 10 fun aj W=>?_
    refine step_append_lies _ rfl (.tmp 78) (.tmp 86) 35 rfl wc.heap.size 81 ev _ 2 16 Tryz.underlying35 eB fb em b8 rfl (by decide) u cnt _ rfl (hN.alloc _).drew ⟨gS.heap.size,0,none⟩ 1 1 [.int .i64 lt,.bool yW] rfl rfl (i5 (h8 _ _)) (by simp[Value.oneCell']) (by decide) cn cq cJ _ rfl ?_;intro bY cap al bc br aO cj;have aZ:=js (iZ _ _ _) br;have f6:=l2 al aZ;have h0:=lQ al aZ 1;refine aQ W (by(first | assumption | exact⟨ji,fY⟩ | exact aN _ (iZ _ _ _) | exact aN _ (jj _ _ _) | exact aN _ (by assumption) | exact⟨(ce _ _ _ _ (fun e=>gj (Eq.symm e))).trans (aN _ aZ).1,(ce _ _ _ _ (fun e=>gj (Eq.symm e))).trans (aN _ aZ).2⟩)) fun Dq=>?_
    clear W aj;refine R 11 ?_;refine rd 12 fun aj W=>?_
    (try simp only[bf,bg,bh]);go_simp;refine aQ W (by(first | assumption | exact⟨ji,fY⟩ | exact aN _ (iZ _ _ _) | exact aN _ (jj _ _ _) | exact aN _ (by assumption) | exact⟨(ce _ _ _ _ (fun e=>gj (Eq.symm e))).trans (aN _ aZ).1,(ce _ _ _ _ (fun e=>gj (Eq.symm e))).trans (aN _ aZ).2⟩)) fun Vc=>?_
    clear W aj;refine gn (by kernel_rfl) ?_ _;refine j8 ?_;generalize gz:World.setCell al _ _=aH;have n3:Hid (aH.cell? ⟨D,1,none⟩=some (.slice (some ⟨bY,0,none⟩) (cnt+1) cap)):=by rw[<-gz];exact on (h:=f6) ..
    have nH:Hid (∀j,aH.frozen? ⟨D,j,none⟩=false):=by rw[<-gz];exact fun j=>(s6 _ _ _ _).trans (lQ al aZ j)
    have hG:al.grownBy aH (some D):=by rw[<-gz];exact oW _ _ _ _
    have jK:bY≠D:=fun e=>by
     rcases aO with h | h
     ·have:=(hN.lt bY h).1;omega
     ·simp at h;omega
    have hM:Hid (aH.ownsRow wc.heap.size 81 2 (.slice (some ⟨bY,0,none⟩) (cnt+1) cap) (i2 bm jl G.lats (k+1)).length ((i2 bm jl G.lats (k+1)).flatMap eA.cells)):=by
     have:=bc.kept hG (.inr (fun e=>jK (by cases e;rfl)))
     show World.ownsRow _ _ _ _ _ _ _;rw[bW.out,jw,s4,qI.out];exact this
    have h5:Hid (wc.grownBy aH (some D)):=Al cc (js ld aZ) hG (fun x J=>(hN.lt x J).1);have rh:Hid (∀j,j≠1->aH.cell? ⟨D,j,none⟩=wc.cell? ⟨D,j,none⟩):=fun j aT=>by
     rw[<-gz];refine(oL (h:=fun e=>aT (by cases e;rfl)) ..).trans ?_;exact((js ld aZ).cell_far ⟨D,j,none⟩ (by show D<_;omega) (fun e=>by have:=(hN.lt D e.symm).1;omega)).trans (lN j aT)
    clear gz hG jK bc br aO cj aZ f6 h0 hN cc lN ch l2 aN lQ bW bb yI z7 ld;go_wp2;go_roundw
    case measure=>simp[intOf];omega
    exact⟨k+1,_,by omega,by simp,n3.out,hM.out,h5.out,nH.out,rh⟩
  ·have cQ:¬((k:Int)<(G.lats.length:Int)):=by omega
   have ou:Hid (wr.ownsRow wc.heap.size 81 2 u (i2 bm jl G.lats (G.lats.length)).length ((i2 bm jl G.lats (G.lats.length)).flatMap eA.cells)):=by
    have:=a6.out
    rw[show k=G.lats.length by omega] at this;exact this
   clear a6;go_wp2;exact dM _ ⟨⟨u,rk.out,ou⟩,cc.out,lN.out,ch⟩
end Go.Proofs.YtcbcenfjigcfkaaGreatDoor
