import Derived.Test.YtcbcenfjigcfkaaGreatDoorK38
set_option maxRecDepth 100000
set_option maxHeartbeats 40000000
namespace Go.Proofs.YtcbcenfjigcfkaaGreatDoor
open Go.RowKit
theorem aql (wc:World) (G:eq) (first:Nat) (bx:List Bool) (bm:Nat->Nat) (Y n bl E g ab D hc nB:Nat) (a:Option Addr) (c:Nat) (mg:wc.cell? ⟨bl,0,none⟩=some (.pointer (some ⟨E,0,none⟩))) (s1:wc.cell? ⟨bl,1,none⟩=some (.slice (some ⟨g,0,none⟩) n n)) (jU:bl<wc.heap.size) (af:g<wc.heap.size) (aph:bl≠D) (aok:g≠D) (VK:first+G.ands.length=n) (Aw:bx.length=G.ands.length) (gT:Hid (∀(i:Nat) (b:Bool),bx[i]?=some b->wc.cell? ⟨g,first+i,none⟩=some (.bool b))) (GP:Hid (∀B,wc.grownBy B (some D)->Calls Tryz.prog 58 #[.pointer (some ⟨E,0,none⟩)] B fun e bs=>e = .returned (.int .i64 (first:Int))∧∃k,bs=B.drewN k)) (fH:wc.cell? ⟨ab,0,none⟩=some (.slice (some ⟨hc,0,none⟩) n nB)) (cR:ab<wc.heap.size) (adO:ab≠D) (bR:Hid (cm Y wc a 2 (G.ands.map Z.cells))) (HU:Y<=wc.heap.size) (acH:Y<=D) (bO:∀(k:Nat) (d:Z),G.ands[k]?=some d->(0<=d.x∧d.x<2*((first+k:Nat):Int))∧(0<=d.y∧d.y<2*((first+k:Nat):Int))) (ag:n<=100000000) (uD:D<wc.heap.size) (It:hc<wc.heap.size) (aem:hc≠D) (jp:Hid (∀v,v<n->wc.cell? ⟨hc,v,none⟩=some (.int .i64 (bm v:Nat))∧bm v<=100000000)) (aJ:wc.cell? ⟨D,2,none⟩=some (.slice none 0 0)) (qs:∀j,wc.frozen? ⟨D,j,none⟩=false) (b9:Act->World->Prop) (eV:Exit->Act->World->Prop) {dC en e1 fx e2 ea ep cz gy fS eF ex ey cM cA cB cC cD cS cT cH cW cX cY cN cI eo c7 dD dE dF dh dO dP dr dt di dj c8 c9 db dd de df dG dH du cZ c6 dw dx dQ dy dz dI dJ dK dk dl dm dn dR dS dT dU dV dW dX dY dZ d0 d3 d4 d5 d6 d7 d8 ei ed eR eS eT eU fy fA e3 fM fC fD e4 e5 e6 e7 fB fc fd fe ff fg fh fi fj fk eY eZ e0 fJ fK fL fl fm fo fp fq fs ft fu fv fw eH eI eJ eK eL gm f8 f9 ga gb gc gf gu gv hE hj hk hm hn ho hp hq hr ht hu hv hw hd:Value}
  (dM:Hid (∀(B:World) {XT xP Bn Bo AQ AR AU AV AW AX AY AZ A0 D8 D9 Ea Eb Ec A1 A2 A3 A4 A5 A6 A7 A8 A9 Ba Bb Bc Bd Be Bf Bg Ee:Value},(∃u,B.cell? ⟨D,2,none⟩=some u∧B.ownsRow wc.heap.size 79 2 u (jd bm bx G.ands (G.ands.length)).length ((jd bm bx G.ands (G.ands.length)).flatMap Z.cells))∧wc.grownBy B (some D)∧(∀j,j≠2->B.cell? ⟨D,j,none⟩=wc.cell? ⟨D,j,none⟩)∧(∀j,B.frozen? ⟨D,j,none⟩=false)->b9 ⟨#[.pointer (some ⟨bl,0,none⟩),dC,en,e1,fx,e2,ea,.func (.func 84) #[] #[.pointer (some ⟨ab,0,none⟩)],.pointer (some ⟨D,0,none⟩),ep,cz,XT,xP,eF,ex,ey,cM,cA,cB,cC,cD,cS,cT,cH,cW,cX,cY,cN,cI,eo,c7,dD,dE,dF,dh,dO,dP,dr,dt,di,dj,c8,c9,db,dd,de,df,dG,dH,du,cZ,c6,dw,dx,dQ,dy,dz,dI,dJ,dK,dk,dl,dm,dn,dR,dS,dT,dU,dV,dW,dX,dY,dZ,d0,d3,d4,d5,d6,d7,d8,ei,ed,eR,eS,eT,eU,fy,fA,e3,fM,fC,fD,e4,e5,e6,e7,.slice a G.ands.length c,.int .i64 (G.ands.length:Int),Bn,Bo,AQ,AR,AU,AV,AW,AX,AY,AZ,A0,D8,D9,Ea,Eb,Ec,A1,A2,A3,A4,A5,A6,A7,A8,A9,Ba,Bb,Bc,Bd,Be,Bf,Bg,Ee,f8,f9,ga,gb,gc,gf,gu,gv,hE,hj,hk,hm,hn,ho,hp,hq,hr,ht,hu,hv,hw,hd],[]⟩ B)) :
  Code.wp Tryz.prog ((Tryz.f57.body.bind (jh 4)).getD .skip) (Exit.then b9 eV) ⟨#[.pointer (some ⟨bl,0,none⟩),dC,en,e1,fx,e2,ea,.func (.func 84) #[] #[.pointer (some ⟨ab,0,none⟩)],.pointer (some ⟨D,0,none⟩),ep,cz,gy,fS,eF,ex,ey,cM,cA,cB,cC,cD,cS,cT,cH,cW,cX,cY,cN,cI,eo,c7,dD,dE,dF,dh,dO,dP,dr,dt,di,dj,c8,c9,db,dd,de,df,dG,dH,du,cZ,c6,dw,dx,dQ,dy,dz,dI,dJ,dK,dk,dl,dm,dn,dR,dS,dT,dU,dV,dW,dX,dY,dZ,d0,d3,d4,d5,d6,d7,d8,ei,ed,eR,eS,eT,eU,fy,fA,e3,fM,fC,fD,e4,e5,e6,e7,.slice a G.ands.length c,.int .i64 (G.ands.length:Int),.int .i64 0,fB,fc,fd,fe,ff,fg,fh,fi,fj,fk,eY,eZ,e0,fJ,fK,fL,fl,fm,fo,fp,fq,fs,ft,fu,fv,fw,eH,eI,eJ,eK,eL,gm,f8,f9,ga,gb,gc,gf,gu,gv,hE,hj,hk,hm,hn,ho,hp,hq,hr,ht,hu,hv,hw,hd],[]⟩ wc:=by
 conv=>arg 2;whnf
 obtain⟨ev,eB,fb,em,b8⟩:=aeD
 change Hid _ at eB fb em b8
 go_wp2_with fail
 go_loopw [98] (fun aq B=>∃(k:Nat) (u:Value),k<=G.ands.length∧aq = .int .i64 k∧Hid (B.cell? ⟨D,2,none⟩=some u)∧Hid (B.ownsRow wc.heap.size 79 2 u (jd bm bx G.ands (k)).length ((jd bm bx G.ands (k)).flatMap Z.cells))∧Hid (wc.grownBy B (some D))∧Hid (∀j,B.frozen? ⟨D,j,none⟩=false)∧Hid (∀j,j≠2->B.cell? ⟨D,j,none⟩=wc.cell? ⟨D,j,none⟩)) (fun aq _=>G.ands.length - (intOf aq).toNat)
 case atStart=>exact⟨0,_,cE _,rfl,aJ,k8 _ _ _ _,qQ _ _,qs,fun _ _=>rfl⟩
 case round =>
  obtain⟨k,u,X,rfl,rk,a6,cc,ch,lN⟩:=hrel;by_cases aB:k<G.ands.length
  ·obtain⟨z,ao⟩:∃z,G.ands[k]?=some z:=bS aB;obtain⟨b,iK⟩:∃b,bx[k]?=some b:=bS (by omega);obtain⟨bG,ck,bQ,gK,cx⟩:=bR.el ao;subst bQ;have qw:bG<wc.heap.size:=bk gK HU;obtain⟨WR,WS⟩:=bO k z ao;have zT:=K (W5 bm bx G.ands k z b ao iK);obtain⟨x,y⟩:=z;have c1:wr.cell? ⟨bG,ck+k*2,none⟩=some (.int .i64 x):=(cc.cell_far _ qw (by simp;omega)).trans (cx 0 _ rfl);have c2:wr.cell? ⟨bG,ck+k*2+1,none⟩=some (.int .i64 y):=(cc.cell_far _ qw (by simp;omega)).trans (cx 1 _ rfl);simp only at WR WS zT;have gY:=cc.size;have fa:(k:Int)<(G.ands.length:Int):=by omega
   go_upto_region 21 with fail
   generalize kA:World.alloc wr _=eQ;obtain⟨kE,pr⟩:=cf (wr.heap.size);have mF:Hid (wr.grownBy eQ u.ownBlock):=by rw[<-kA];exact jj _ _ _
   have qJ:Hid (wc.grownBy eQ (some D)):=js cc (by rw[<-kA];exact jj _ _ _);have pb:Hid (V wr eQ):=by rw[<-kA];exact(ax _ _).alloc (aL _) _
   have jg:Hid (eQ.cell? ⟨kE,0,none⟩=some (.int .i64 x)∧eQ.cell? ⟨kE,1,none⟩=some (.int .i64 y)):=by
    rw[<-kA,pr];exact⟨ja rfl,ja rfl⟩
   have adv:kE<eQ.heap.size:=by rw[<-kA,pr];simp
   have qX:wc.heap.size<=kE:=by omega
   have V0:wr.heap.size<=kE:=by omega
   rw[<-pr];have rx:∀x,x<wc.heap.size->some x≠u.ownBlock:=fun x J e=>by have:=(a6.lt x e.symm).1;omega
   obtain⟨q0,FN⟩:=cf (first+k);have kT:eQ.cell? ⟨bl,0,none⟩=some (.pointer (some ⟨E,0,none⟩)):=(qJ.cell_far ⟨bl,0,none⟩ jU (by simp;omega)).trans mg;have bY:eQ.cell? ⟨bl,1,none⟩=some (.slice (some ⟨g,0,none⟩) n n):=(qJ.cell_far ⟨bl,1,none⟩ jU (by simp;omega)).trans s1;have h7:eQ.cell? ⟨g,q0,none⟩=some (.bool b):=(qJ.cell_far ⟨g,q0,none⟩ af (by simp;omega)).trans (by rw[FN];exact gT k b iK);have Y6:Hid (∀B,B=eQ.drew->Calls Tryz.prog 58 #[.pointer (some ⟨E,0,none⟩)] B fun e bs=>e = .returned (.int .i64 (first:Int))∧∃k,bs=B.drewN k):=fun B aV=>by rw[aV];exact GP _ ⟨qJ.os,qJ.tape,qJ.output,qJ.size,qJ.block⟩
   clear kA pr c1 c2;have HQ:IntKind.i64.wrap ((first:Int)+(k:Int))=(q0:Int):=by rw[mj _ (by omega) (by omega)];omega
   have zp:(q0:Int)<(n:Int):=by omega
   have sT:q0<=300000000:=by omega
   clear FN
   (
   refine mR ?_;refine ih (S:=(fun B=>B.cell? ⟨bl,0,none⟩=some (.pointer (some ⟨E,0,none⟩))∧B.cell? ⟨bl,1,none⟩=some (.slice (some ⟨g,0,none⟩) n n)∧B.cell? ⟨g,q0,none⟩=some (.bool b))) (by kernel_rfl) (by first | assumption | exact⟨kT,bY,h7⟩ | (rw[gp];exact⟨kT,bY,h7⟩)) (fun ii=>?_);refine R 0 ?_;refine R 1 ?_;refine R 2 ?_;refine R 3 ?_;refine R 4 ?_;refine R 5 ?_;refine R 6 ?_;refine R 7 ?_;refine R 9 ?_;refine rd 8 fun aj W=>?_
   (try simp only[bf,bg,bh]);go_simp;go_at_call 58;refine(Y6 _ rfl).mono ?_;rintro e w2 ⟨rfl,UB,gp⟩;go_wp2_with fail
   refine W.out _ _ (by first | assumption | exact⟨kT,bY,h7⟩ | (rw[gp];exact⟨kT,bY,h7⟩)) (fun oC=>?_);clear W aj;try simp only[Act.put,mP,mh,mi]
   refine R 10 ?_;refine R 11 ?_;refine R 12 ?_;refine gn (by kernel_rfl) ?_ _;refine j8 ?_
   )
   generalize xt:World.drewN eQ _=gS;have ld:Hid (wr.grownBy gS u.ownBlock):=by rw[<-xt];exact⟨mF.os,mF.tape,mF.output,mF.size,mF.block⟩
   have JH:Hid (wc.grownBy gS (some D)):=by rw[<-xt];exact⟨qJ.os,qJ.tape,qJ.output,qJ.size,qJ.block⟩
   have ape:eQ.heap.size<=gS.heap.size:=by rw[<-xt];exact aL _
   have ji:gS.cell? ⟨kE,0,none⟩=some (.int .i64 x):=by rw[<-xt];exact jg.1
   have fY:gS.cell? ⟨kE,1,none⟩=some (.int .i64 y):=by rw[<-xt];exact jg.2
   have JO:Hid (gS.ownsRow wc.heap.size 79 2 u (jd bm bx G.ands (k)).length ((jd bm bx G.ands (k)).flatMap Z.cells)):=by
    rw[<-xt];exact mx (mx a6 pb) (Below.drewN (ax _ _) _)
   have DM:gS.cell? ⟨D,2,none⟩=some u:=(ld.cell_far ⟨D,2,none⟩ (by show D<_;omega) (rx D uD)).trans rk.out;have JG:Hid (∀j,gS.frozen? ⟨D,j,none⟩=false):=fun j=>(ld.frozen_far ⟨D,j,none⟩ (by show D<_;omega) (rx D uD)).trans (ch j)
   have ZI:Hid (∀j,j≠2->gS.cell? ⟨D,j,none⟩=wc.cell? ⟨D,j,none⟩):=fun j aT=>(ld.cell_far ⟨D,j,none⟩ (by show D<_;omega) (rx D uD)).trans (lN j aT)
   have bM:=bF ((k:Int)+1);have N0:some kE≠u.ownBlock:=fun e=>by have:=(a6.lt kE e.symm).2;omega
   clear xt gp mF qJ pb jg kT bY h7 a6 rk HQ zp sT Y6 cx;cases b
   ·have ez:Hid (jd bm bx G.ands (k+1)=jd bm bx G.ands k):=by
     show _=_;rw[zT.out];simp
    have G9:Hid (gS.ownsRow wc.heap.size 79 2 u (jd bm bx G.ands (k+1)).length ((jd bm bx G.ands (k+1)).flatMap Z.cells)):=by
     show World.ownsRow _ _ _ _ _ _ _;rw[ez.out];exact JO
    change Hid _ at DM
    clear zT ez ji fY;go_wp2;go_roundw
    case measure=>simp[intOf];omega
    exact⟨k+1,u,by omega,by simp,DM.out,G9.out,JH.out,JG.out,ZI⟩
   ·have J4:Hid (Calls Tryz.prog 84 #[.int .i64 x,.pointer (some ⟨ab,0,none⟩)] gS.drew fun e B=>e = .returned (.int .i64 (je bm x))∧B=gS.drew) :=
     Sg gS.drew ab hc nB n bm ((JH.cell_far ⟨ab,0,none⟩ cR (by simp;omega)).trans fH) ag (fun v L=>⟨(JH.cell_far ⟨hc,v,none⟩ It (by simp;omega)).trans (jp v L).1,(jp v L).2⟩) x WR.1 (by omega)
    have Hx:Hid (Calls Tryz.prog 84 #[.int .i64 y,.pointer (some ⟨ab,0,none⟩)] gS.drew fun e B=>e = .returned (.int .i64 (je bm y))∧B=gS.drew) :=
     Sg gS.drew ab hc nB n bm ((JH.cell_far ⟨ab,0,none⟩ cR (by simp;omega)).trans fH) ag (fun v L=>⟨(JH.cell_far ⟨hc,v,none⟩ It (by simp;omega)).trans (jp v L).1,(jp v L).2⟩) y WS.1 (by omega)
    have bW:Hid (jd bm bx G.ands (k+1)=jd bm bx G.ands k++[⟨je bm x,je bm y⟩]):=by
     show _=_;rw[zT.out];rfl
    obtain⟨cnt,qI⟩:∃n,Hid ((jd bm bx G.ands k).length=n):=⟨_,rfl⟩
    have VC:cnt<=k:=by rw[<-qI.out,RN _ _ _ _ Aw];exact bL List.count_le_length (by simp;omega)
    have hN:Hid (gS.ownsRow wc.heap.size 79 2 u cnt ((jd bm bx G.ands k).flatMap Z.cells)):=by
     show World.ownsRow _ _ _ _ _ _ _;rw[<-qI.out];exact JO
    generalize je bm x=vH at *;generalize je bm y=K2 at *;have cn:cnt+1<=maxLen:=by simp only[maxLen];omega
    have cq:(cnt+1)*16<=140737488355328:=by omega
    have cJ:wc.heap.size<=((gS.alloc (.cells #[.int .i64 vH,.int .i64 K2] 79)).drew).heap.size:=by simp;omega
    have gj:kE≠D:=by omega
    clear ao WR WS zT JO ZI JH;have bb:=DM;have l2:Hid (∀B,gS.grownBy B u.ownBlock->B.cell? ⟨D,2,none⟩=some u):=fun B af=>(af.cell_far ⟨D,2,none⟩ (by show D<_;omega) (rx D uD)).trans DM
    have aN:Hid (∀B,gS.grownBy B u.ownBlock->B.cell? ⟨kE,0,none⟩=some (.int .i64 x)∧B.cell? ⟨kE,1,none⟩=some (.int .i64 y)):=fun B af=>⟨(af.cell_far ⟨kE,0,none⟩ (by show kE<_;omega) N0).trans ji,(af.cell_far ⟨kE,1,none⟩ (by show kE<_;omega) N0).trans fY⟩
    have lQ:Hid (∀B,gS.grownBy B u.ownBlock->∀j,B.frozen? ⟨D,j,none⟩=false):=fun B af j=>(af.frozen_far ⟨D,j,none⟩ (by show D<_;omega) (rx D uD)).trans (JG j)
    have yI:(gS.alloc (.cells #[.int .i64 vH,.int .i64 K2] 79)).cell? ⟨D,2,none⟩=some u:=l2 _ (jj _ _ _);clear DM JG;go_upto_region 22 with fail
    refine mR ?_;refine ih (S:=(fun B=>B.cell? ⟨kE,0,none⟩=some (.int .i64 x)∧B.cell? ⟨kE,1,none⟩=some (.int .i64 y))) (by kernel_rfl) (by(first | assumption | exact⟨ji,fY⟩ | exact aN _ (iZ _ _ _) | exact aN _ (jj _ _ _) | exact aN _ (by assumption) | exact⟨(ce _ _ _ _ (fun e=>gj (Eq.symm e))).trans (aN _ aZ).1,(ce _ _ _ _ (fun e=>gj (Eq.symm e))).trans (aN _ aZ).2⟩)) (fun ii=>?_);refine R 0 ?_;refine R 2 ?_;refine R 3 ?_;refine R 4 ?_;refine R 6 ?_;refine R 7 ?_;refine R 8 ?_;refine wpAnyH_ready (rs:=[1,5]) (by kernel_rfl) (by simp) ?_;refine j9 (o:=_) rfl (fun aj W=>?_) ?_
    ·(try simp only[bf,bg,bh]);go_simp;refine aQ W (by(first | assumption | exact⟨ji,fY⟩ | exact aN _ (iZ _ _ _) | exact aN _ (jj _ _ _) | exact aN _ (by assumption) | exact⟨(ce _ _ _ _ (fun e=>gj (Eq.symm e))).trans (aN _ aZ).1,(ce _ _ _ _ (fun e=>gj (Eq.symm e))).trans (aN _ aZ).2⟩)) fun oC=>?_
     clear W aj;refine rd 5 fun aj W=>?_
     (try simp only[bf,bg,bh]);go_simp;go_at_call 84;refine J4.mono ?_;rintro e w2 ⟨rfl,rfl⟩;go_wp2_with fail
     refine aQ W (by(first | assumption | exact⟨ji,fY⟩ | exact aN _ (iZ _ _ _) | exact aN _ (jj _ _ _) | exact aN _ (by assumption) | exact⟨(ce _ _ _ _ (fun e=>gj (Eq.symm e))).trans (aN _ aZ).1,(ce _ _ _ _ (fun e=>gj (Eq.symm e))).trans (aN _ aZ).2⟩)) fun Kq=>?_
     clear W aj;refine rd 9 fun aj W=>?_
     (try simp only[bf,bg,bh]);go_simp;go_at_call 84;refine Hx.mono ?_;rintro e w2 ⟨rfl,rfl⟩;go_wp2_with fail
     refine aQ W (by(first | assumption | exact⟨ji,fY⟩ | exact aN _ (iZ _ _ _) | exact aN _ (jj _ _ _) | exact aN _ (by assumption) | exact⟨(ce _ _ _ _ (fun e=>gj (Eq.symm e))).trans (aN _ aZ).1,(ce _ _ _ _ (fun e=>gj (Eq.symm e))).trans (aN _ aZ).2⟩)) fun M9=>?_
     clear W aj;refine R 10 ?_;refine rd 11 fun aj W=>?_
     (try simp only[bf,bg,bh]);go_simp;refine aQ W (by(first | assumption | exact⟨ji,fY⟩ | exact aN _ (iZ _ _ _) | exact aN _ (jj _ _ _) | exact aN _ (by assumption) | exact⟨(ce _ _ _ _ (fun e=>gj (Eq.symm e))).trans (aN _ aZ).1,(ce _ _ _ _ (fun e=>gj (Eq.symm e))).trans (aN _ aZ).2⟩)) fun Kn=>?_
     clear W aj;refine rd 12 fun aj W=>?_
     refine step_append_lies _ rfl (.tmp 117) (.tmp 127) 36 rfl wc.heap.size 79 ev _ 2 16 Tryz.underlying36 eB fb em b8 rfl (by decide) u cnt _ rfl (hN.alloc _).drew ⟨gS.heap.size,0,none⟩ 1 1 [.int .i64 vH,.int .i64 K2] rfl rfl (i5 (h8 _ _)) (by simp[Value.oneCell']) (by decide) cn cq cJ _ rfl ?_;intro bY cap al bc br aO cj;have aZ:=js (iZ _ _ _) br;have f6:=l2 al aZ;have h0:=lQ al aZ 2;refine aQ W (by(first | assumption | exact⟨ji,fY⟩ | exact aN _ (iZ _ _ _) | exact aN _ (jj _ _ _) | exact aN _ (by assumption) | exact⟨(ce _ _ _ _ (fun e=>gj (Eq.symm e))).trans (aN _ aZ).1,(ce _ _ _ _ (fun e=>gj (Eq.symm e))).trans (aN _ aZ).2⟩)) fun Dq=>?_
     clear W aj;refine R 13 ?_;refine rd 14 fun aj W=>?_
     (try simp only[bf,bg,bh]);go_simp;refine aQ W (by(first | assumption | exact⟨ji,fY⟩ | exact aN _ (iZ _ _ _) | exact aN _ (jj _ _ _) | exact aN _ (by assumption) | exact⟨(ce _ _ _ _ (fun e=>gj (Eq.symm e))).trans (aN _ aZ).1,(ce _ _ _ _ (fun e=>gj (Eq.symm e))).trans (aN _ aZ).2⟩)) fun Ve=>?_
     clear W aj;refine gn (by kernel_rfl) ?_ _;refine j8 ?_;generalize gz:World.setCell al _ _=aH;have n3:Hid (aH.cell? ⟨D,2,none⟩=some (.slice (some ⟨bY,0,none⟩) (cnt+1) cap)):=by rw[<-gz];exact on (h:=f6) ..
     have nH:Hid (∀j,aH.frozen? ⟨D,j,none⟩=false):=by rw[<-gz];exact fun j=>(s6 _ _ _ _).trans (lQ al aZ j)
     have hG:al.grownBy aH (some D):=by rw[<-gz];exact oW _ _ _ _
     have jK:bY≠D:=fun e=>by
      rcases aO with h | h
      ·have:=(hN.lt bY h).1;omega
      ·simp at h;omega
     have hM:Hid (aH.ownsRow wc.heap.size 79 2 (.slice (some ⟨bY,0,none⟩) (cnt+1) cap) (jd bm bx G.ands (k+1)).length ((jd bm bx G.ands (k+1)).flatMap Z.cells)):=by
      have:=bc.kept hG (.inr (fun e=>jK (by cases e;rfl)))
      show World.ownsRow _ _ _ _ _ _ _;rw[bW.out,jw,s4,qI.out];exact this
     have h5:Hid (wc.grownBy aH (some D)):=Al cc (js ld aZ) hG (fun x J=>(hN.lt x J).1);have rh:Hid (∀j,j≠2->aH.cell? ⟨D,j,none⟩=wc.cell? ⟨D,j,none⟩):=fun j aT=>by
      rw[<-gz];refine(oL (h:=fun e=>aT (by cases e;rfl)) ..).trans ?_;exact((js ld aZ).cell_far ⟨D,j,none⟩ (by show D<_;omega) (fun e=>by have:=(hN.lt D e.symm).1;omega)).trans (lN j aT)
     clear gz hG jK bc br aO cj aZ f6 h0 hN cc lN ch l2 aN lQ bW bb yI J4 Hx ld;go_wp2;go_roundw
     case measure=>simp[intOf];omega
     exact⟨k+1,_,by omega,by simp,n3.out,hM.out,h5.out,nH.out,rh⟩
    refine j9 (o:=_) rfl (fun aj W=>?_) q6;(try simp only[bf,bg,bh]);go_simp;go_at_call 84;refine J4.mono ?_;rintro e w2 ⟨rfl,rfl⟩;go_wp2_with fail
    refine aQ W (by(first | assumption | exact⟨ji,fY⟩ | exact aN _ (iZ _ _ _) | exact aN _ (jj _ _ _) | exact aN _ (by assumption) | exact⟨(ce _ _ _ _ (fun e=>gj (Eq.symm e))).trans (aN _ aZ).1,(ce _ _ _ _ (fun e=>gj (Eq.symm e))).trans (aN _ aZ).2⟩)) fun Kq=>?_
    clear W aj;refine wpAnyH_ready (rs:=[1,9]) (by kernel_rfl) (by simp) ?_;refine j9 (o:=_) rfl (fun aj W=>?_) ?_
    ·(try simp only[bf,bg,bh]);go_simp;refine aQ W (by(first | assumption | exact⟨ji,fY⟩ | exact aN _ (iZ _ _ _) | exact aN _ (jj _ _ _) | exact aN _ (by assumption) | exact⟨(ce _ _ _ _ (fun e=>gj (Eq.symm e))).trans (aN _ aZ).1,(ce _ _ _ _ (fun e=>gj (Eq.symm e))).trans (aN _ aZ).2⟩)) fun oC=>?_
     clear W aj;refine rd 9 fun aj W=>?_
     (try simp only[bf,bg,bh]);go_simp;go_at_call 84;refine Hx.mono ?_;rintro e w2 ⟨rfl,rfl⟩;go_wp2_with fail
     refine aQ W (by(first | assumption | exact⟨ji,fY⟩ | exact aN _ (iZ _ _ _) | exact aN _ (jj _ _ _) | exact aN _ (by assumption) | exact⟨(ce _ _ _ _ (fun e=>gj (Eq.symm e))).trans (aN _ aZ).1,(ce _ _ _ _ (fun e=>gj (Eq.symm e))).trans (aN _ aZ).2⟩)) fun M9=>?_
     clear W aj;refine R 10 ?_;refine rd 11 fun aj W=>?_
     (try simp only[bf,bg,bh]);go_simp;refine aQ W (by(first | assumption | exact⟨ji,fY⟩ | exact aN _ (iZ _ _ _) | exact aN _ (jj _ _ _) | exact aN _ (by assumption) | exact⟨(ce _ _ _ _ (fun e=>gj (Eq.symm e))).trans (aN _ aZ).1,(ce _ _ _ _ (fun e=>gj (Eq.symm e))).trans (aN _ aZ).2⟩)) fun Kn=>?_
     clear W aj;refine rd 12 fun aj W=>?_
     refine step_append_lies _ rfl (.tmp 117) (.tmp 127) 36 rfl wc.heap.size 79 ev _ 2 16 Tryz.underlying36 eB fb em b8 rfl (by decide) u cnt _ rfl (hN.alloc _).drew ⟨gS.heap.size,0,none⟩ 1 1 [.int .i64 vH,.int .i64 K2] rfl rfl (i5 (h8 _ _)) (by simp[Value.oneCell']) (by decide) cn cq cJ _ rfl ?_;intro bY cap al bc br aO cj;have aZ:=js (iZ _ _ _) br;have f6:=l2 al aZ;have h0:=lQ al aZ 2;refine aQ W (by(first | assumption | exact⟨ji,fY⟩ | exact aN _ (iZ _ _ _) | exact aN _ (jj _ _ _) | exact aN _ (by assumption) | exact⟨(ce _ _ _ _ (fun e=>gj (Eq.symm e))).trans (aN _ aZ).1,(ce _ _ _ _ (fun e=>gj (Eq.symm e))).trans (aN _ aZ).2⟩)) fun Dq=>?_
     clear W aj;refine R 13 ?_;refine rd 14 fun aj W=>?_
     (try simp only[bf,bg,bh]);go_simp;refine aQ W (by(first | assumption | exact⟨ji,fY⟩ | exact aN _ (iZ _ _ _) | exact aN _ (jj _ _ _) | exact aN _ (by assumption) | exact⟨(ce _ _ _ _ (fun e=>gj (Eq.symm e))).trans (aN _ aZ).1,(ce _ _ _ _ (fun e=>gj (Eq.symm e))).trans (aN _ aZ).2⟩)) fun Ve=>?_
     clear W aj;refine gn (by kernel_rfl) ?_ _;refine j8 ?_;generalize gz:World.setCell al _ _=aH;have n3:Hid (aH.cell? ⟨D,2,none⟩=some (.slice (some ⟨bY,0,none⟩) (cnt+1) cap)):=by rw[<-gz];exact on (h:=f6) ..
     have nH:Hid (∀j,aH.frozen? ⟨D,j,none⟩=false):=by rw[<-gz];exact fun j=>(s6 _ _ _ _).trans (lQ al aZ j)
     have hG:al.grownBy aH (some D):=by rw[<-gz];exact oW _ _ _ _
     have jK:bY≠D:=fun e=>by
      rcases aO with h | h
      ·have:=(hN.lt bY h).1;omega
      ·simp at h;omega
     have hM:Hid (aH.ownsRow wc.heap.size 79 2 (.slice (some ⟨bY,0,none⟩) (cnt+1) cap) (jd bm bx G.ands (k+1)).length ((jd bm bx G.ands (k+1)).flatMap Z.cells)):=by
      have:=bc.kept hG (.inr (fun e=>jK (by cases e;rfl)))
      show World.ownsRow _ _ _ _ _ _ _;rw[bW.out,jw,s4,qI.out];exact this
     have h5:Hid (wc.grownBy aH (some D)):=Al cc (js ld aZ) hG (fun x J=>(hN.lt x J).1);have rh:Hid (∀j,j≠2->aH.cell? ⟨D,j,none⟩=wc.cell? ⟨D,j,none⟩):=fun j aT=>by
      rw[<-gz];refine(oL (h:=fun e=>aT (by cases e;rfl)) ..).trans ?_;exact((js ld aZ).cell_far ⟨D,j,none⟩ (by show D<_;omega) (fun e=>by have:=(hN.lt D e.symm).1;omega)).trans (lN j aT)
     clear gz hG jK bc br aO cj aZ f6 h0 hN cc lN ch l2 aN lQ bW bb yI J4 Hx ld;go_wp2;go_roundw
     case measure=>simp[intOf];omega
     exact⟨k+1,_,by omega,by simp,n3.out,hM.out,h5.out,nH.out,rh⟩
    refine j9 (o:=_) rfl (fun aj W=>?_) q6;(try simp only[bf,bg,bh]);go_simp;go_at_call 84;refine Hx.mono ?_;rintro e w2 ⟨rfl,rfl⟩;go_wp2_with fail
    refine aQ W (by(first | assumption | exact⟨ji,fY⟩ | exact aN _ (iZ _ _ _) | exact aN _ (jj _ _ _) | exact aN _ (by assumption) | exact⟨(ce _ _ _ _ (fun e=>gj (Eq.symm e))).trans (aN _ aZ).1,(ce _ _ _ _ (fun e=>gj (Eq.symm e))).trans (aN _ aZ).2⟩)) fun M9=>?_
    clear W aj;refine R 10 ?_;refine wpAnyH_ready (rs:=[1,11]) (by kernel_rfl) (by simp) ?_;refine j9 (o:=_) rfl (fun aj W=>?_) ?_
    ·(try simp only[bf,bg,bh]);go_simp;refine aQ W (by(first | assumption | exact⟨ji,fY⟩ | exact aN _ (iZ _ _ _) | exact aN _ (jj _ _ _) | exact aN _ (by assumption) | exact⟨(ce _ _ _ _ (fun e=>gj (Eq.symm e))).trans (aN _ aZ).1,(ce _ _ _ _ (fun e=>gj (Eq.symm e))).trans (aN _ aZ).2⟩)) fun oC=>?_
     clear W aj;refine rd 11 fun aj W=>?_
     (try simp only[bf,bg,bh]);go_simp;refine aQ W (by(first | assumption | exact⟨ji,fY⟩ | exact aN _ (iZ _ _ _) | exact aN _ (jj _ _ _) | exact aN _ (by assumption) | exact⟨(ce _ _ _ _ (fun e=>gj (Eq.symm e))).trans (aN _ aZ).1,(ce _ _ _ _ (fun e=>gj (Eq.symm e))).trans (aN _ aZ).2⟩)) fun Kn=>?_
     clear W aj;refine rd 12 fun aj W=>?_
     refine step_append_lies _ rfl (.tmp 117) (.tmp 127) 36 rfl wc.heap.size 79 ev _ 2 16 Tryz.underlying36 eB fb em b8 rfl (by decide) u cnt _ rfl (hN.alloc _).drew ⟨gS.heap.size,0,none⟩ 1 1 [.int .i64 vH,.int .i64 K2] rfl rfl (i5 (h8 _ _)) (by simp[Value.oneCell']) (by decide) cn cq cJ _ rfl ?_;intro bY cap al bc br aO cj;have aZ:=js (iZ _ _ _) br;have f6:=l2 al aZ;have h0:=lQ al aZ 2;refine aQ W (by(first | assumption | exact⟨ji,fY⟩ | exact aN _ (iZ _ _ _) | exact aN _ (jj _ _ _) | exact aN _ (by assumption) | exact⟨(ce _ _ _ _ (fun e=>gj (Eq.symm e))).trans (aN _ aZ).1,(ce _ _ _ _ (fun e=>gj (Eq.symm e))).trans (aN _ aZ).2⟩)) fun Dq=>?_
     clear W aj;refine R 13 ?_;refine rd 14 fun aj W=>?_
     (try simp only[bf,bg,bh]);go_simp;refine aQ W (by(first | assumption | exact⟨ji,fY⟩ | exact aN _ (iZ _ _ _) | exact aN _ (jj _ _ _) | exact aN _ (by assumption) | exact⟨(ce _ _ _ _ (fun e=>gj (Eq.symm e))).trans (aN _ aZ).1,(ce _ _ _ _ (fun e=>gj (Eq.symm e))).trans (aN _ aZ).2⟩)) fun Ve=>?_
     clear W aj;refine gn (by kernel_rfl) ?_ _;refine j8 ?_;generalize gz:World.setCell al _ _=aH;have n3:Hid (aH.cell? ⟨D,2,none⟩=some (.slice (some ⟨bY,0,none⟩) (cnt+1) cap)):=by rw[<-gz];exact on (h:=f6) ..
     have nH:Hid (∀j,aH.frozen? ⟨D,j,none⟩=false):=by rw[<-gz];exact fun j=>(s6 _ _ _ _).trans (lQ al aZ j)
     have hG:al.grownBy aH (some D):=by rw[<-gz];exact oW _ _ _ _
     have jK:bY≠D:=fun e=>by
      rcases aO with h | h
      ·have:=(hN.lt bY h).1;omega
      ·simp at h;omega
     have hM:Hid (aH.ownsRow wc.heap.size 79 2 (.slice (some ⟨bY,0,none⟩) (cnt+1) cap) (jd bm bx G.ands (k+1)).length ((jd bm bx G.ands (k+1)).flatMap Z.cells)):=by
      have:=bc.kept hG (.inr (fun e=>jK (by cases e;rfl)))
      show World.ownsRow _ _ _ _ _ _ _;rw[bW.out,jw,s4,qI.out];exact this
     have h5:Hid (wc.grownBy aH (some D)):=Al cc (js ld aZ) hG (fun x J=>(hN.lt x J).1);have rh:Hid (∀j,j≠2->aH.cell? ⟨D,j,none⟩=wc.cell? ⟨D,j,none⟩):=fun j aT=>by
      rw[<-gz];refine(oL (h:=fun e=>aT (by cases e;rfl)) ..).trans ?_;exact((js ld aZ).cell_far ⟨D,j,none⟩ (by show D<_;omega) (fun e=>by have:=(hN.lt D e.symm).1;omega)).trans (lN j aT)
     clear gz hG jK bc br aO cj aZ f6 h0 hN cc lN ch l2 aN lQ bW bb yI J4 Hx ld;go_wp2;go_roundw
     case measure=>simp[intOf];omega
     exact⟨k+1,_,by omega,by simp,n3.out,hM.out,h5.out,nH.out,rh⟩
    refine j9 (o:=_) rfl (fun aj W=>?_) q6;(try simp only[bf,bg,bh]);go_simp;refine aQ W (by(first | assumption | exact⟨ji,fY⟩ | exact aN _ (iZ _ _ _) | exact aN _ (jj _ _ _) | exact aN _ (by assumption) | exact⟨(ce _ _ _ _ (fun e=>gj (Eq.symm e))).trans (aN _ aZ).1,(ce _ _ _ _ (fun e=>gj (Eq.symm e))).trans (aN _ aZ).2⟩)) fun Kn=>?_
    clear W aj;refine rd 1 fun aj W=>?_
    (try simp only[bf,bg,bh]);go_simp;refine aQ W (by(first | assumption | exact⟨ji,fY⟩ | exact aN _ (iZ _ _ _) | exact aN _ (jj _ _ _) | exact aN _ (by assumption) | exact⟨(ce _ _ _ _ (fun e=>gj (Eq.symm e))).trans (aN _ aZ).1,(ce _ _ _ _ (fun e=>gj (Eq.symm e))).trans (aN _ aZ).2⟩)) fun oC=>?_
    clear W aj;refine rd 12 fun aj W=>?_
    refine step_append_lies _ rfl (.tmp 117) (.tmp 127) 36 rfl wc.heap.size 79 ev _ 2 16 Tryz.underlying36 eB fb em b8 rfl (by decide) u cnt _ rfl (hN.alloc _).drew ⟨gS.heap.size,0,none⟩ 1 1 [.int .i64 vH,.int .i64 K2] rfl rfl (i5 (h8 _ _)) (by simp[Value.oneCell']) (by decide) cn cq cJ _ rfl ?_;intro bY cap al bc br aO cj;have aZ:=js (iZ _ _ _) br;have f6:=l2 al aZ;have h0:=lQ al aZ 2;refine aQ W (by(first | assumption | exact⟨ji,fY⟩ | exact aN _ (iZ _ _ _) | exact aN _ (jj _ _ _) | exact aN _ (by assumption) | exact⟨(ce _ _ _ _ (fun e=>gj (Eq.symm e))).trans (aN _ aZ).1,(ce _ _ _ _ (fun e=>gj (Eq.symm e))).trans (aN _ aZ).2⟩)) fun Dq=>?_
    clear W aj;refine R 13 ?_;refine rd 14 fun aj W=>?_
    (try simp only[bf,bg,bh]);go_simp;refine aQ W (by(first | assumption | exact⟨ji,fY⟩ | exact aN _ (iZ _ _ _) | exact aN _ (jj _ _ _) | exact aN _ (by assumption) | exact⟨(ce _ _ _ _ (fun e=>gj (Eq.symm e))).trans (aN _ aZ).1,(ce _ _ _ _ (fun e=>gj (Eq.symm e))).trans (aN _ aZ).2⟩)) fun Ve=>?_
    clear W aj;refine gn (by kernel_rfl) ?_ _;refine j8 ?_;generalize gz:World.setCell al _ _=aH;have n3:Hid (aH.cell? ⟨D,2,none⟩=some (.slice (some ⟨bY,0,none⟩) (cnt+1) cap)):=by rw[<-gz];exact on (h:=f6) ..
    have nH:Hid (∀j,aH.frozen? ⟨D,j,none⟩=false):=by rw[<-gz];exact fun j=>(s6 _ _ _ _).trans (lQ al aZ j)
    have hG:al.grownBy aH (some D):=by rw[<-gz];exact oW _ _ _ _
    have jK:bY≠D:=fun e=>by
     rcases aO with h | h
     ·have:=(hN.lt bY h).1;omega
     ·simp at h;omega
    have hM:Hid (aH.ownsRow wc.heap.size 79 2 (.slice (some ⟨bY,0,none⟩) (cnt+1) cap) (jd bm bx G.ands (k+1)).length ((jd bm bx G.ands (k+1)).flatMap Z.cells)):=by
     have:=bc.kept hG (.inr (fun e=>jK (by cases e;rfl)))
     show World.ownsRow _ _ _ _ _ _ _;rw[bW.out,jw,s4,qI.out];exact this
    have h5:Hid (wc.grownBy aH (some D)):=Al cc (js ld aZ) hG (fun x J=>(hN.lt x J).1);have rh:Hid (∀j,j≠2->aH.cell? ⟨D,j,none⟩=wc.cell? ⟨D,j,none⟩):=fun j aT=>by
     rw[<-gz];refine(oL (h:=fun e=>aT (by cases e;rfl)) ..).trans ?_;exact((js ld aZ).cell_far ⟨D,j,none⟩ (by show D<_;omega) (fun e=>by have:=(hN.lt D e.symm).1;omega)).trans (lN j aT)
    clear gz hG jK bc br aO cj aZ f6 h0 hN cc lN ch l2 aN lQ bW bb yI J4 Hx ld;go_wp2;go_roundw
    case measure=>simp[intOf];omega
    exact⟨k+1,_,by omega,by simp,n3.out,hM.out,h5.out,nH.out,rh⟩
  ·have cQ:¬((k:Int)<(G.ands.length:Int)):=by omega
   have ou:Hid (wr.ownsRow wc.heap.size 79 2 u (jd bm bx G.ands (G.ands.length)).length ((jd bm bx G.ands (G.ands.length)).flatMap Z.cells)):=by
    have:=a6.out
    rw[show k=G.ands.length by omega] at this;exact this
   clear a6;go_wp2;exact dM _ ⟨⟨u,rk.out,ou⟩,cc.out,lN.out,ch⟩
end Go.Proofs.YtcbcenfjigcfkaaGreatDoor
