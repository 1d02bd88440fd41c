import Derived.Test.YtcbcenfjigcfkaaGreatDoorK34
set_option maxRecDepth 100000
set_option maxHeartbeats 40000000
namespace Go.Proofs.YtcbcenfjigcfkaaGreatDoor
open Go.RowKit
theorem ak6 (C:Nat) (wc:World) (E M first ai aK aX kh m c5:Nat) (a5:Option Addr) (hs:List Z) (an j0:Nat->Prop) (wl:List (List Int)) (N:aR) (JU:Hid (∀b,an b->b≠aX->j0 b)) (EV:Hid (i7 C wc wc E M aX 3 first hs j0 3 1 (.slice none 0 0) 0 [])) (Mf:Hid (∀j x,wc.cell? ⟨aX,j,none⟩=some (.int .i64 x)->j=0)) (nM:wc.cell? ⟨ai,5,none⟩=some (.slice (some ⟨aK,0,none⟩) kh kh)) (lx:Hid (∀(i:Nat) (l:List Int),wl[i]?=some l->l≠[]->∃x,wc.cell? ⟨aK,i,none⟩=some x∧cv an wc x l)) (xC:j0 ai) (qv:j0 aK) (z1:Hid (wl.length=kh)) (gT:Hid (m=N.outs.length)) (ae:m<=1048576) (bR:Hid (cm C wc a5 1 (N.outs.map j4))) (E6:Hid (∀o,o∈N.outs->0<=o∧0<(wl.getD o.toNat []).length∧(wl.getD o.toNat []).length<=64)) (w7:Hid (∀k,(rP wl (N.outs.take k)).length<=60000)) (b9:Act->World->Prop) (eV:Exit->Act->World->Prop) {bX dC en e2 ea ec dL ep cz gy fS eF ex ey cM cA cB cC cD cS cT cH cW cX cY cN cI eo c7 dD dE dF dh dO dP dr dt di dj c8 c9 db dd de df dG dH du cZ c6 dw dx dQ dy dz dI dJ dK dk dl dm dn dR dS dT dU dV dW dX dY dZ d0 d3 d4 d5 d6 d7 d8 ei ed eR eS eT eU fy fA e3 fM fC fD e4 e5 e6 e7 fN fO fP fB fc fd fe ff fg fh fi fj fk eY eZ e0 fl fm fo fp fq fs ft fu fv fw eH eI eJ eK eL gm f8 f9 ga gb gc gf gu gv:Value}
  (dM:Hid (∀(B:World) {yQ A1 A2 A3 A4 A5 A6 A7 A8 A9 Ba Bb Bc Bd Be Bf Bg:Value},(∃u n,i7 C wc B E M aX 3 first hs j0 3 1 u n ((rP wl N.outs).map ip))->b9 ⟨#[bX,dC,en,.pointer (some ⟨ai,0,none⟩),.pointer (some ⟨aX,0,none⟩),e2,ea,ec,dL,ep,cz,gy,fS,eF,yQ,ey,cM,cA,cB,cC,cD,cS,cT,cH,cW,cX,cY,cN,cI,eo,c7,dD,dE,dF,dh,dO,dP,dr,dt,di,dj,c8,c9,db,dd,de,df,dG,dH,du,cZ,c6,dw,dx,dQ,dy,dz,dI,dJ,dK,dk,dl,dm,dn,dR,dS,dT,dU,dV,dW,dX,dY,dZ,d0,d3,d4,d5,d6,d7,d8,ei,ed,eR,eS,eT,eU,fy,fA,e3,fM,fC,fD,e4,e5,e6,e7,fN,fO,fP,fB,fc,fd,fe,ff,fg,fh,fi,fj,fk,eY,eZ,e0,.slice a5 m c5,.int .i64 m,A1,A2,A3,A4,A5,A6,A7,A8,A9,Ba,Bb,Bc,Bd,Be,Bf,Bg,gm,f8,f9,ga,gb,gc,gf,gu,gv],[]⟩ B)) :
  Code.wp Tryz.prog ((Tryz.f27.body.bind (jh 8)).getD .skip) (Exit.then b9 eV) ⟨#[bX,dC,en,.pointer (some ⟨ai,0,none⟩),.pointer (some ⟨aX,0,none⟩),e2,ea,ec,dL,ep,cz,gy,fS,eF,ex,ey,cM,cA,cB,cC,cD,cS,cT,cH,cW,cX,cY,cN,cI,eo,c7,dD,dE,dF,dh,dO,dP,dr,dt,di,dj,c8,c9,db,dd,de,df,dG,dH,du,cZ,c6,dw,dx,dQ,dy,dz,dI,dJ,dK,dk,dl,dm,dn,dR,dS,dT,dU,dV,dW,dX,dY,dZ,d0,d3,d4,d5,d6,d7,d8,ei,ed,eR,eS,eT,eU,fy,fA,e3,fM,fC,fD,e4,e5,e6,e7,fN,fO,fP,fB,fc,fd,fe,ff,fg,fh,fi,fj,fk,eY,eZ,e0,.slice a5 m c5,.int .i64 m,.int .i64 0,fl,fm,fo,fp,fq,fs,ft,fu,fv,fw,eH,eI,eJ,eK,eL,gm,f8,f9,ga,gb,gc,gf,gu,gv],[]⟩ wc:=by
 conv=>arg 2;whnf
 obtain⟨ev,eB,fb,em,b8⟩:=sW
 change Hid _ at eB fb em b8
 go_wp2_with fail
 go_loopw [114] (fun aq B=>∃(k:Nat) (u:Value) (bx:Nat),k<=m∧aq = .int .i64 k∧Hid (i7 C wc B E M aX 3 first hs j0 3 1 u bx ((rP wl (N.outs.take k)).map ip))) (fun aq _=>m - (intOf aq).toNat)
 case atStart=>exact⟨0,_,0,cE _,rfl,EV⟩
 case round =>
  clear EV;obtain⟨k,u,bx,X,rfl,he⟩:=hrel;by_cases aB:k<m
  ·obtain⟨z,ao⟩:=bS (l:=N.outs) (k:=k) (by have:=gT.out;omega);obtain⟨bG,ck,bQ,gK,cx⟩:=bR.intR ao;subst bQ;obtain⟨io,oG,AP⟩:=E6 z (bn ao);obtain⟨tv,rfl⟩:=Int.eq_ofNat_of_zero_le io;simp only[Int.toNat_natCast] at oG AP;have alm:wr.cell? ⟨bG,ck+k,none⟩=some (.int .i64 (tv:Int)):=(he.kp.below.cell (p:=⟨bG,ck+k,none⟩) gK).trans cx;have DS:(rP wl (N.outs.take (k+1))).map ip=(rP wl (N.outs.take k)).map ip++(wl.getD tv []).map ip:=by
    unfold rP;rw[gM _ k _ ao,s4,g1];simp
   have Aw:bx*1=((rP wl (N.outs.take k)).map ip).length:=he.ow.1.symm;rw[lb] at Aw;have ks:=w7 k;have cb:wl.getD tv []≠[]:=fun e=>by rw[e] at oG;simp at oG
   have tp:=Kk cb;generalize wl.getD tv []=l at *;obtain⟨GI,Cf,dg⟩:=lx tv l tp cb;have N5:=dg.box Mf (fun b D ag=>he.kp.block b (JU b D ag)) (he.oth 0 (by decide));obtain⟨lC,mN,pk,rfl,-,-,qX⟩:=N5;have Iy:wr.cell? ⟨aK,tv,none⟩=some (.slice (some ⟨lC,mN,none⟩) l.length pk):=(dA (a:=⟨aK,tv,none⟩) (he.kp.block aK qv)).trans Cf;have lA:Hid (∀(j:Nat) (u:Value),(l.map ip)[j]?=some u->wr.drew.cell? ((⟨lC,mN,none⟩:Addr).add j)=some u):=fun j u bb=>by
    rw[fT] at bb;cases J:l[j]? with
    | none=>rw[J] at bb;cases bb
    | some x =>
     rw[J] at bb
     have:(⟨lC,mN,none⟩:Addr).add j=⟨lC,mN+j,none⟩:=by unfold Addr.add;split <;> simp_all
     rw[this];have e:ip x=u:=by simpa using bb
     rw[<-e];exact qX j x J
   have KG:tv<wl.length:=(cr.1 tp).1;have b5:wr.cell? ⟨ai,5,none⟩=some (.slice (some ⟨aK,0,none⟩) kh kh):=(dA (a:=⟨ai,5,none⟩) (he.kp.block ai xC)).trans nM;have y5:=K DS;have Hn:Hid ((l.map ip).length=l.length*1):=by show _=_;simp
   have C9:Hid (∀u,u∈l.map ip->u.oneCell'=true):=fun u bb=>by obtain⟨x,-,rfl⟩:=i6.1 bb;rfl
   generalize l.map ip=ol at *;generalize NH:l.length=lw at *;have sQ:0<lw:=oG;have cn:bx+lw<=maxLen:=by simp only[maxLen];omega
   have cq:(bx+lw)*8<=140737488355328:=by omega
   have rI:=he.fld;have JJ:=K (he.below (Below.drew (ax _ _)));have hx:wr.cell? ⟨ai,5,none⟩=some (.slice (some ⟨aK,0,none⟩) kh kh)∧wr.cell? ⟨aK,tv,none⟩=some (.slice (some ⟨lC,mN,none⟩) lw pk):=⟨b5,Iy⟩
   have qM:Hid (∀(B:World),(∀b,j0 b->B.heap[b]?=wr.heap[b]?)->B.cell? ⟨ai,5,none⟩=some (.slice (some ⟨aK,0,none⟩) kh kh)∧B.cell? ⟨aK,tv,none⟩=some (.slice (some ⟨lC,mN,none⟩) lw pk)):=fun B aJ=>⟨(dA (a:=⟨ai,5,none⟩) (aJ ai xC)).trans b5,(dA (a:=⟨aK,tv,none⟩) (aJ aK qv)).trans Iy⟩
   have FO:(tv:Int)<(kh:Int):=by have:=z1.out;omega
   have fa:(k:Int)<(m:Int):=by omega
   have bM:=bF ((k:Int)+1);clear io oG AP Aw ks DS tp Cf dg qX Iy KG b5 NH cx ao cb;go_upto_region 28 with fail
   clear alm;refine mR ?_;refine ih (S:=(fun B=>B.cell? ⟨ai,5,none⟩=some (.slice (some ⟨aK,0,none⟩) kh kh)∧B.cell? ⟨aK,tv,none⟩=some (.slice (some ⟨lC,mN,none⟩) lw pk))) (by kernel_rfl) (by exact hx) (fun ii=>?_);refine R 0 ?_;refine R 2 ?_;refine R 3 ?_;refine R 4 ?_;refine R 5 ?_;refine R 6 ?_;refine R 7 ?_;refine R 8 ?_;refine rd 1 fun aj W=>?_
   (try simp only[bf,bg,bh]);go_simp;refine aQ W (by exact hx) fun Na=>?_
   clear W aj;refine rd 9 fun aj W=>?_
   refine step_append_lies _ rfl (.tmp 119) (.tmp 126) 22 rfl C 3 ev _ 1 8 Tryz.underlying22 eB fb em b8 rfl (by decide) u bx _ rfl JJ.ow ⟨lC,mN,none⟩ lw pk ol rfl Hn lA C9 sQ cn cq JJ.gt.lo.2.2 _ rfl ?_;intro mW Dj al bc br aO cj;have fV:=K (JJ.push bc br aO cj);have f6:=fV.1;have h0:=fV.2.1 3;have cV:Hid (Below C wr al):=((Below.drew (ax _ _)).mono he.gt.lo.2.2).trans (jB br JJ.gt.lo.2.2 (fun z ao=>(JJ.ow.lt z ao).1));have vo:Hid (∀b,j0 b->al.heap[b]?=wr.heap[b]?):=fun b D=>fV.2.2.1 b D
   clear bc br aO cj;refine aQ W (by exact qM _ vo) fun xp=>?_
   clear W aj;refine R 10 ?_;refine rd 11 fun aj W=>?_
   (try simp only[bf,bg,bh]);go_simp;refine aQ W (by exact qM _ (fun b D=>(Below.heap_setCell _ _ _ _ (he.ap b D).1).trans (vo b D))) fun Dr=>?_
   clear W aj;refine gn (by kernel_rfl) ?_ _;refine j8 ?_;generalize av:World.setCell al _ _=aH;have h5:=K (fV.2.2.2 aH av);have ub:Hid (i7 C wc aH E M aX 3 first hs j0 3 1 (.slice (some ⟨mW,0,none⟩) (bx+lw) Dj) (bx+lw) ((rP wl (N.outs.take (k+1))).map ip)):=by
    show i7 _ _ _ _ _ _ _ _ _ _ _ _ _ _ _;rw[y5.out];exact h5
   clear hx qM y5 av f6 h0 lA JJ fV cV vo h5 he rI;go_wp2;go_roundw
   case measure=>simp[intOf];omega
   exact⟨k+1,_,_,by omega,by simp,ub⟩
  ·have cQ:¬((k:Int)<(m:Int)):=by omega
   have ou:Hid (i7 C wc wr E M aX 3 first hs j0 3 1 u bx ((rP wl N.outs).map ip)):=by
    have e:=he.out;rw[fQ (by have:=gT.out;omega)] at e;exact e
   clear he;go_wp2;exact dM _ ⟨_,_,ou⟩
theorem agn {P:Program} {jL:Array Oper} {o:Oper} {a:Act} {w:World} {aj:Act->World->Prop} {Q:Exit->Act->World->Prop} {aih:Prop} (af:o.guard=none) (l c:Operand) (t:TypeId) (Cc:o.op=Op.makeSlice t l c)
  (jI:Nat) (e:TypeId) (i:TypeInfo) (z:Value) (size:Nat) (F:P.underlying t=some (.slice e)) (O:P.info? e=some i) (aW:i.zero=some z) (cw:i.size=size)
  (rN aeL:IntKind) (ba C:Int) (n:Nat) (hl:a.eval l = .int rN ba) (ar:a.eval c = .int aeL C) (jR:ba=(n:Int)) (eu:C=(n:Int)) (b2:i.bytes*n<=281474976710656) (b3:n<=maxLen) (b4:jI<=w.heap.size)
  (h:∀B,B.ownsRow jI e size (.slice (some ⟨w.heap.size,0,none⟩) n n) n (madeCells z.cells (n*size)).toList->w.grownBy B none->aj (a.put o.dst (.slice (some ⟨w.heap.size,0,none⟩) n n)) B) :
  if Region.wanted o (yielded jL a.tmps)=true then Oper.wp P o a w aj Q else aih:=by
 have aw:Region.wanted o (yielded jL a.tmps)=true:=by simp[Region.wanted,af]
 rw[if_pos aw];obtain⟨B,AA,io,jM⟩:=run_make_full (P:=P) w jI t e i z size F O aW cw rN aeL n b2 b3 b4;subst jR;subst eu;unfold Oper.wp;simp[execOp,Cc,hl,ar,AA,Result.andThen];exact h B io jM
theorem at3 {P:Program} {id:Nat} {jL:Array Oper} {b:Bool} {Q:Exit->Act->World->Prop} {a:Act} {w:World} (abi:Act->World->Prop) (F:(Code.region id jL b).wp P (fun e eP B=>e = .normal∧abi eP B) a w) (O:∀eP B,abi eP B->Q .normal eP B):(Code.region id jL b).wp P Q a w :=
 Code.wp_mono (fun e eP B h=>by obtain⟨rfl,h⟩:=h;exact O eP B h) F
def PU (w:World) (aK:Nat):Prop:=∀j v,w.cell? ⟨aK,j,none⟩=some v->v = .slice none 0 0
section
variable {an:Nat->Prop} {w:World} {aK:Nat}
theorem cv.off {v:Value} {l:List Int} (h:cv an w v l) (cb:l≠[]) (ag:PU w aK):cv (fun b=>an b∧b≠aK) w v l:=by
 obtain⟨b,o,c,F,O,aW,cw⟩:=h;refine⟨b,o,c,F,O,⟨aW,?_⟩,cw⟩;rintro rfl;obtain⟨x,r,rfl⟩:=List.exists_cons_of_ne_nil cb
 have:=ag _ _ (cw 0 x rfl)
 cases this
theorem qm.off {v:Value} {ws:List (List Int)} (h:qm an w v ws) (cb:∀l,l∈ws->l≠[]) (ag:PU w aK):qm (fun b=>an b∧b≠aK) w v ws:=by
 obtain⟨a,c,F,O⟩:=h;refine⟨a,c,F,fun i l hl=>?_⟩;obtain⟨b,o,x,ad,aE,J,aw⟩:=O i l hl;have D:b≠aK:=by
  rintro rfl;obtain⟨bw,kG,mJ,rfl,-⟩:=aw
  have:=ag _ _ J
  cases this
 exact⟨b,o,x,ad,⟨aE,D⟩,J,aw.off (cb l (bn hl)) ag⟩
theorem ro.off {v:Value} {ms:List (List (List Int))} (h:ro an w v ms) (cb:∀ws,ws∈ms->ws≠[]∧∀l,l∈ws->l≠[]) (ag:PU w aK):ro (fun b=>an b∧b≠aK) w v ms:=by
 obtain⟨a,c,F,O⟩:=h;refine⟨a,c,F,fun i ws hl=>?_⟩;obtain⟨b,o,x,ad,aE,J,b2,hT,c2,rfl,bK,h7,lS⟩:=O i ws hl;obtain⟨n1,mv⟩:=cb ws (bn hl);have D:b≠aK:=by
  rintro rfl
  have:=ag _ _ J
  cases this
 have bH:b2≠aK:=by
  rintro rfl;obtain⟨l,r,rfl⟩:=List.exists_cons_of_ne_nil n1;obtain⟨y,aF,bw,kG,mJ,rfl,-⟩:=lS 0 l rfl
  have:=ag _ _ aF
  cases this
 refine⟨b,o,_,ad,⟨aE,D⟩,J,b2,hT,c2,rfl,bK,⟨h7,bH⟩,fun k l X=>?_⟩;obtain⟨y,aF,aw⟩:=lS k l X;exact⟨y,aF,aw.off (mv l (bn X)) ag⟩
end
theorem acz {C nF:Nat} {w:World} {E M:Nat} {Ps:Nat->Prop} (h:qg nF w E M 1 [] (.slice none 0 0)) (eu:C<=nF) (F:C<=E) (O:C<=M) (aE:∀b,Ps b->b<w.heap.size∧b≠E∧b≠M):bZ C w E M 1 [] Ps :=
 ⟨⟨_,⟨h.c0,h.c1,h.c2,k8 _ _ _ _,h.kn,h.fr,bL eu h.ge,h.lt,h.lm,h.ne,h.ng,h.nm⟩,fun b _ e=>by cases e⟩,Ws _,⟨F,O,bL eu h.ge⟩,⟨cE _,aL _,by decide⟩,aE⟩
structure HB (C:Nat) (az w:World) (E M ai ab aK n:Nat):Prop where
 gt:bZ C w E M 1 [] (fun b=>b=ai∨b=aK)
 cs:∀j,w.cell? ⟨ai,j,none⟩=(#[.pointer (some ⟨E,0,none⟩),.pointer (some ⟨ab,0,none⟩),.slice none 0 0,.slice none 0 0,.slice none 0 0,.slice (some ⟨aK,0,none⟩) n n]:Array Value)[j]?
 fz:∀j,w.frozen? ⟨ai,j,none⟩=false
 ow:w.ownsRow C 22 1 (.slice (some ⟨aK,0,none⟩) n n) n (List.replicate n (.slice none 0 0))
 bel:Below C az w
 lt:C<=ai∧ai≠aK∧ai<w.heap.size
theorem HB.of {C:Nat} {az w2 w3:World} {E M ab aK n t:Nat} (af:bZ C w2 E M 1 [] (fun b=>b=aK)) (aY:w2.ownsRow C 22 1 (.slice (some ⟨aK,0,none⟩) n n) n (List.replicate n (.slice none 0 0))) (D:Below C az w2)
  (aw:w2.alloc (.cells #[.pointer (some ⟨E,0,none⟩),.pointer (some ⟨ab,0,none⟩),.slice none 0 0,.slice none 0 0,.slice none 0 0,.slice (some ⟨aK,0,none⟩) n n] t)=w3):HB C az w3 E M w2.heap.size ab aK n:=by
 have rz:Below w2.heap.size w2 w3:=by rw[<-aw];exact(ax _ _).alloc (aL _) _
 have gY:w2.heap.size<w3.heap.size:=by rw[<-aw];simp
 have vB:=(aY.lt aK rfl).2;refine⟨(af.add rz (aL _) gY).less (fun b D=>?_),fun j=>?_,fun j=>?_,mx aY rz,D.trans (rz.mono af.lo.2.2),af.lo.2.2,by omega,gY⟩
 ·rcases D with D | D
  ·exact .inr D
  ·exact .inl D
 ·rw[<-aw];exact ja rfl
 ·rw[<-aw];exact World.frozen?_alloc_at _ _ _ _ rfl
theorem arS {w:World} {C aK n:Nat} (h:w.ownsRow C 22 1 (.slice (some ⟨aK,0,none⟩) n n) n (List.replicate n (.slice none 0 0))):PU w aK∧sv w aK:=by
 rcases h.2 with ⟨d9,_⟩ | ⟨oB,zb,hV,d9,f0,np,mc,sP,jD,sS⟩
 ·simp at d9
 ·simp only[Value.slice.injEq,Option.some.injEq,Addr.mk.injEq,and_true,true_and] at d9;obtain⟨rfl,rfl⟩:=d9;have bp:hV.toList=List.replicate n (.slice none 0 0):=by
   rw[<-sS];exact(fQ (by rw[Array.length_toList,jD];omega)).symm
  refine⟨fun j v L=>?_,hV,_,np,fun u bb=>?_⟩
  ·have ar:hV.toList[j]?=some v:=by
    rw[Array.getElem?_toList];simpa[World.cell?,np] using L
   rw[bp] at ar;exact(List.mem_replicate.1 (bn ar)).2
  ·rw[bp] at bb;exact⟨none,0,0,(List.mem_replicate.1 bb).2⟩
theorem HB.lay {C:Nat} {az w:World} {E M ai ab aK n:Nat} (h:HB C az w E M ai ab aK n):kR C w w E M ai 2 1 (fun b=>b=aK) (fun b=>b=aK) (.slice none 0 0) [] []:=by
 have vB:=(h.ow.lt aK rfl).2;refine⟨fun _ D=>D,h.gt.less (fun b D=>?_),f3.refl _ _ _,k8 _ _ _ _,⟨rfl,fun i l hl=>by simp at hl⟩,fun b D=>⟨fun e=>h.lt.2.1 (by rw[<-e,<-D]),fun e=>by cases e⟩,h.cs 2,fun _ _=>rfl,h.fz,fun b D=>(by rw[D];exact vB),h.lt.2.2,aL _,h.gt.lo.2.2,h.lt.1,fun e=>(h.gt.ps ai (.inl rfl)).2.1 e⟩;rcases D with D | D | D
 ·exact .inr D
 ·exact .inl D
 ·cases D
theorem kR.graph {C:Nat} {az w v:World} {E M ai ab aK n first t:Nat} {an:Nat->Prop} {u nI:Value} {ws:List (List Int)} {am:List Value} (h:kR C az w E M ai 2 first (fun b=>b=aK) an u ws am) (hs:∀j,az.cell? ⟨ai,j,none⟩=(#[.pointer (some ⟨E,0,none⟩),.pointer (some ⟨ab,0,none⟩),.slice none 0 0,.slice none 0 0,.slice none 0 0,.slice (some ⟨aK,0,none⟩) n n]:Array Value)[j]?)
  (aw:w.alloc (.cells #[nI,.slice none 0 0,.slice none 0 0,.slice none 0 0] t)=v):LS C v E M ai ab first (fun b=>lq an u b∨b=w.heap.size)∧qm (fun b=>lq an u b∨b=w.heap.size) v u ws∧v.cell? ⟨ai,2,none⟩=some u∧v.cell? ⟨ai,5,none⟩=some (.slice (some ⟨aK,0,none⟩) n n)∧Below w.heap.size w v:=by
 have rz:Below w.heap.size w v:=by rw[<-aw];exact(ax _ _).alloc (aL _) _
 have gY:w.heap.size<v.heap.size:=by rw[<-aw];simp
 have f0:ai<w.heap.size:=bk h.lt.2.1 h.lt.2.2.1;have ar:∀j,v.cell? ⟨ai,j,none⟩=w.cell? ⟨ai,j,none⟩:=fun j=>rz.cell (p:=⟨ai,j,none⟩) f0
 have DN:u.ownBlock≠some ai:=fun e=>by have:=(h.ow.lt ai e).1;have:=h.lt.2.1;omega
 have af:=h.gt.add rz (aL _) gY;refine⟨⟨af.less (fun b D=>?_),fun D=>?_,?_,?_,?_,?_,fun j=>(rz.frozen (p:=⟨ai,j,none⟩) f0).trans (h.fz j),h.lt.2.2.2.2⟩,?_,?_,?_,rz⟩
 ·rcases D with ((D | D) | D) | D
  ·exact .inl (.inl D)
  ·exact .inl (.inr (.inr D))
  ·exact .inr D
  ·exact .inl (.inr (.inl D))
 ·rcases D with (D | D) | D
  ·exact(h.ap ai D).1 rfl
  ·exact DN D
  ·omega
 ·exact(ar 0).trans ((h.oth 0 (by decide)).trans (hs 0))
 ·exact(ar 1).trans ((h.oth 1 (by decide)).trans (hs 1))
 ·exact(ar 3).trans ((h.oth 3 (by decide)).trans (hs 3))
 ·exact(ar 4).trans ((h.oth 4 (by decide)).trans (hs 4))
 ·refine(h.row.keep (fun b D=>rz.block b ?_)).more (fun b D=> .inl D);rcases D with D | D
  ·exact(h.gt.ps b (.inl D)).1
  ·exact(h.gt.ps b (.inr (.inr D))).1
 ·exact(ar 2).trans h.fld
 ·exact(ar 5).trans ((h.oth 5 (by decide)).trans (hs 5))
theorem afG {w B:World} {C e gx n:Nat} {u:Value} {xs:List Value} (h:w.ownsRow C e gx u n xs) (D:∀b,u.ownBlock=some b->B.heap[b]?=w.heap[b]?):B.ownsRow C e gx u n xs:=by
 refine⟨h.1,?_⟩;rcases h.2 with d9 | ⟨oB,cap,hV,rfl,ar,np,oH⟩
 ·exact .inl d9
 ·exact .inr ⟨oB,cap,hV,rfl,ar,(D oB rfl).trans np,oH⟩
theorem ash {C:Nat} {v gZ nC:World} {E M ai ab aK ng aX sM first n:Nat} {rp oS:Nat->Prop} {u1:Value} {ins regs:List (List Int)} {mems:List (List (List Int))} (gW:LS C v E M ai ab sM rp) (bO:qm rp v u1 ins) (c2:v.cell? ⟨ai,2,none⟩=some u1) (c5:v.cell? ⟨ai,5,none⟩=some (.slice (some ⟨aK,0,none⟩) n n)) (vB:rp aK) (how:v.ownsRow C 22 1 (.slice (some ⟨aK,0,none⟩) n n) n (List.replicate n (.slice none 0 0)))
  (rH:∀b,rp b->oS b) (cR:¬oS ai) (af:bZ C gZ E M first [] (fun b=>oS b∨b=ai)) (X:f3 C rp v gZ) (tt:∀j,j≠3->j≠4->gZ.cell? ⟨ai,j,none⟩=v.cell? ⟨ai,j,none⟩) (aW:∃x,gZ.cell? ⟨ai,3,none⟩=some x∧qm oS gZ x regs) (cw:∃x,gZ.cell? ⟨ai,4,none⟩=some x∧ro oS gZ x mems)
  (D:V gZ nC) (NN:gZ.heap.size<=ng∧ng<nC.heap.size) (bp:∀l,l∈ins->l≠[]) (aS:∀l,l∈regs->l≠[]) (bM:∀ws,ws∈mems->ws≠[]∧∀l,l∈ws->l≠[]) (np:rp aX∧aX≠aK) :
  pj C nC nC E M first ai ab aK [] (fun b=>(oS b∨b=ai∨b=ng)∧b≠aK) (fun b=>(oS b∨b=ai∨b=ng)∧b≠aK) ins regs mems (List.replicate n [])∧nC.heap[aX]?=v.heap[aX]?:=by
 have aJ:∀b,oS b->nC.heap[b]?=gZ.heap[b]?:=fun b bH=>D.block b (af.ps b (.inl bH)).1
 have f0:ai<gZ.heap.size:=(af.ps ai (.inr rfl)).1;have tm:ai≠aK:=fun e=>cR (by rw[e];exact rH aK vB)
 have ar:∀j,nC.cell? ⟨ai,j,none⟩=gZ.cell? ⟨ai,j,none⟩:=fun j=>D.cell (p:=⟨ai,j,none⟩) f0
 have WF:nC.heap[aK]?=v.heap[aK]?:=(aJ aK (rH aK vB)).trans (X.block aK vB);have Ca:=zD how WF;obtain⟨Rg,em⟩:=arS Ca;have ae:∀b,oS b∧b≠aK->(oS b∨b=ai∨b=ng)∧b≠aK:=fun b D=>⟨.inl D.1,D.2⟩
 obtain⟨e1,qP,lZ⟩:=aW;obtain⟨fx,alW,oG⟩:=cw;refine⟨⟨((af.add D NN.1 NN.2).less (fun b D=>?_)),f3.refl _ _ _,fun _ D=>D,?_,?_,⟨u1,?_,?_⟩,⟨e1,(ar 3).trans qP,?_⟩,⟨fx,(ar 4).trans alW,?_⟩,?_,fun i l hl cb=>?_,⟨_,by rw[List.length_replicate];exact Ca⟩,em,fun D=>D.2 rfl,⟨.inr (.inl rfl),tm⟩⟩,(aJ aX (rH aX np.1)).trans (X.block aX np.1)⟩
 ·rcases D with ⟨D,-⟩ | D
  ·rcases D with D | D | D
   ·exact .inl (.inl D)
   ·exact .inl (.inr D)
   ·exact .inr D
  ·exact .inl (.inl (by rw[D];exact rH aK vB))
 ·exact(ar 0).trans ((tt 0 (by decide) (by decide)).trans gW.c0)
 ·exact(ar 1).trans ((tt 1 (by decide) (by decide)).trans gW.c1)
 ·exact(ar 2).trans ((tt 2 (by decide) (by decide)).trans c2)
 ·exact((((bO.keep X.block).more rH).keep aJ).off bp Rg).more ae
 ·exact((lZ.keep aJ).off aS Rg).more ae
 ·exact((oG.keep aJ).off bM Rg).more ae
 ·rw[List.length_replicate];exact(ar 5).trans ((tt 5 (by decide) (by decide)).trans c5)
 ·exact absurd (List.mem_replicate.1 (bn hl)).2 cb
theorem am2 {w:World} {aX t:Nat} {nI:Int} (D:w.heap[aX]?=some (.cells #[.int .i64 nI,.slice none 0 0,.slice none 0 0,.slice none 0 0] t (0,0))):Jt w aX∧(∀j,w.cell? ⟨aX,j,none⟩=(#[.int .i64 nI,.slice none 0 0,.slice none 0 0,.slice none 0 0]:Array Value)[j]?)∧∀j,w.frozen? ⟨aX,j,none⟩=false:=by
 have ar:∀j,w.cell? ⟨aX,j,none⟩=(#[.int .i64 nI,.slice none 0 0,.slice none 0 0,.slice none 0 0]:Array Value)[j]?:=fun j=>by simp[World.cell?,D]
 refine⟨⟨fun j x J=>?_,fun j a n c J=>?_⟩,ar,fun j=>by simp[World.frozen?,D]⟩
 ·rw[ar j] at J
  match j,J with
  | 0,_=>rfl
  | 1,h=>simp at h
  | 2,h=>simp at h
  | 3,h=>simp at h
  | (k+4),h=>simp at h
 ·rw[ar j] at J
  match j,J with
  | 0,h=>simp at h
  | 1,h=>simp at h
  | 2,h=>simp at h
  | 3,h=>simp at h
  | (k+4),h=>simp at h
theorem pj.graph {C:Nat} {az w:World} {E M first ai ab aK aX t:Nat} {hs:List Z} {jZ an:Nat->Prop} {ins regs:List (List Int)} {mems:List (List (List Int))} {ws:List (List Int)} {nI:Int} (h:pj C az w E M first ai ab aK hs jZ an ins regs mems ws) (aE:jZ aX) (eu:C<=aX) (D:az.heap[aX]?=some (.cells #[.int .i64 nI,.slice none 0 0,.slice none 0 0,.slice none 0 0] t (0,0))) :
  Jt w aX∧i7 C w w E M aX 1 first hs (fun b=>cK an aK b∧b≠aX) 81 2 (.slice none 0 0) 0 []∧(∀j,w.cell? ⟨aX,j,none⟩=(#[.int .i64 nI,.slice none 0 0,.slice none 0 0,.slice none 0 0]:Array Value)[j]?)∧cK an aK aX:=by
 obtain⟨bY,bK,h7⟩:=am2 ((h.kp.block aX aE).trans D);refine⟨bY,⟨h.gt.less (fun b D=>?_),f3.refl _ _ _,k8 _ _ _ _,fun b D=>⟨D.2,fun e=>by cases e⟩,(fun e=>by cases e),(bK 1).trans rfl,fun _ _=>rfl,h7,eu⟩,bK,.inl (h.sub aX aE)⟩;rcases D with D | D | D
 ·exact D.1
 ·rw[D];exact .inl (h.sub aX aE)
 ·cases D
theorem i7.after {C:Nat} {al aH dN:World} {E M aX first t gx:Nat} {hs bA:List Z} {j0 Ub lB:Nat->Prop} {u:Value} {n:Nat} {xs:List Value} (h:i7 C al aH E M aX 1 first hs j0 t gx u n xs) (ad7:Ub aX) (rH:∀b,(Ub b∨u.ownBlock=some b)->lB b) (af:bZ C dN E M first bA lB) (X:f3 C (fun b=>Ub b∨u.ownBlock=some b) aH dN) :
  i7 C dN dN E M aX 1 first bA (fun b=>lB b∧b≠aX∧u.ownBlock≠some b) t gx u n xs:=by
 have D:=X.block aX (.inl ad7);refine⟨af.less (fun b D=>?_),f3.refl _ _ _,afG h.ow (fun b D=>X.block b (.inr D)),fun b D=>D.2,h.ne,(dA (a:=⟨aX,1,none⟩) D).trans h.fld,fun _ _=>rfl,fun j=>(World.frozen?_of_block (a:=⟨aX,j,none⟩) D).trans (h.fz j),h.lt⟩;rcases D with D | D | D
 ·exact D.1
 ·rw[D];exact rH aX (.inl ad7)
 ·exact rH b (.inr D)
theorem i7.ints {C:Nat} {az w:World} {E M aX first t gx:Nat} {hs:List Z} {j0:Nat->Prop} {u:Value} {n:Nat} {xs:List Value} {nI:Int} (h:i7 C az w E M aX 1 first hs j0 t gx u n xs) (ar:∀j,j≠1->az.cell? ⟨aX,j,none⟩=(#[.int .i64 nI,.slice none 0 0,.slice none 0 0,.slice none 0 0]:Array Value)[j]?):∀j x,w.cell? ⟨aX,j,none⟩=some (.int .i64 x)->j=0:=by
 intro j x J;by_cases aT:j=1
 ·subst aT;rw[h.fld] at J;obtain⟨a,c,bb⟩:=Gh h.ow;rw[bb] at J;simp at J
 ·rw[h.oth j aT,ar j aT] at J
  match j,J with
  | 0,_=>rfl
  | 1,h=>simp at h
  | 2,h=>simp at h
  | 3,h=>simp at h
  | (k+4),h=>simp at h
theorem MI.ints {jO J6:Nat->Prop} {w:World} {v:Value} {ms:List (List (List Int))} (h:MI jO J6 w v ms):∃a c,v = .slice a ms.length c:=by
 obtain⟨a,c,F,-⟩:=h;exact⟨a,c,F⟩
theorem bZ.ands {C:Nat} {w:World} {E M first:Nat} {hs:List Z} {Ps:Nat->Prop} (h:bZ C w E M first hs Ps):∃a c,w.cell? ⟨E,1,none⟩=some (.slice a hs.length c)∧w.ownsRow C 79 2 (.slice a hs.length c) hs.length (hs.flatMap Z.cells)∧∀b,Ps b->(Value.slice a hs.length c).ownBlock≠some b:=by
 obtain⟨u,bb,uF⟩:=h.gt;obtain⟨a,c,rfl⟩:=Gh bb.ow;exact⟨a,c,bb.c1,bb.ow,uF⟩
def LR (N:aR) (w:World) (e:Ending) (B:World):Prop:=∃need,lR N need∧(((gU N need).1.length<=1048576∧∃T,e = .returned (.agg (T.cells (kc N need)))∧iB B.heap.size B T (kc N need)∧((∀b o,T.a1=some ⟨b,o,none⟩->w.heap.size<=b)∧(∀b o,T.a2=some ⟨b,o,none⟩->w.heap.size<=b)∧(∀b o,T.a3=some ⟨b,o,none⟩->w.heap.size<=b))∧V w B)∨(1048576<(gU N need).1.length∧(∃p,e=fI p∧qG B p 11 0)∧V w B))
theorem LR.throw {N:aR} {w B:World} {need:List Bool} {p:Nat} (h:lR N need) (F:1048576<(gU N need).1.length) (O:qG B p 11 0) (aW:V w B):LR N w (fI p) B:=⟨need,h,.inr ⟨F,⟨p,rfl,O⟩,aW⟩⟩
theorem ah0 {f:Nat} {ns:List Nat} (h:∀n,n∈ns->1<=n):∀l,l∈gL f ns->l≠[]:=by
 induction ns generalizing f with
 | nil=>intro l hl;simp[gL] at hl
 | cons n r aA =>
  intro l hl;rcases List.mem_cons.1 hl with rfl | hl
  ·intro e
   have:=F8 f n
   rw[e] at this
   have:=h n qe
   simp at *;omega
  ·exact aA (fun m ae=>h m (qd _ ae)) l hl
theorem ale (Y:Nat) (w:World) (ab:Nat) (S:dp) (N:aR) (gV:eM Y w S N) (aM:Y<=w.heap.size) (aG:er N=true) (cR:th w ab S N) (pt:ab<w.heap.size) (aI:N.ins.length<=1048576) (F:N.regs.length<=1048576) (O:N.mems.length<=1048576) (aW:N.wrs.length<=1048576) (cw:N.outs.length<=1048576) (acC:N.nodes.length<=1048576) (mX:∀d,d∈N.nodes->d.args.length<=1048576) (jR:h4 N.regs+ha N.mems<=6000) (l9:ki N N.outs<=60000) :
  Calls Tryz.prog 27 #[.pointer (some ⟨ab,0,none⟩)] w (LR N w):=by
 obtain⟨n,ag⟩:=cf (N.nodes.length);have bP:=K ag;have hY:n<=1048576:=by rw[ag];exact acC
 have GR:=K gV;have Z5:=K cR;have afV:w.cell? ⟨ab,1,none⟩=some (.slice S.a1 n S.c1):=by rw[ag];exact cR 1 _ rfl
 have T4:Hid (∀v:World,Calls Tryz.prog 48 #[.int .i64 1] v fun e B=>e = .returned (.pointer (some ⟨v.heap.size+1,0,none⟩))∧qg v.heap.size B (v.heap.size+1) v.heap.size 1 [] (.slice none 0 0)∧V v B∧B.heap.size=v.heap.size+2):=fun v=>arJ v 1
 obtain⟨ev,eB,fb,em,b8⟩:=KU;have ke:ev.bytes*n<=281474976710656:=by rw[b8];omega
 have jc:n<=maxLen:=by simp only[maxLen];omega
 have Pp:Hid (hH N.ins<=33554432):=by have:=RK aG aI N.ins.length;rw[fQ (aL _)] at this;exact this
 change Hid _ at aG mX jR l9 eB fb em
 clear b8 ag gV cR acC;go_enter Tryz.func27,Tryz.ntmps27
 go_upto_region 1 with fail
 generalize oX:World.alloc w _=az;obtain⟨rs,k0⟩:=cf (w.heap.size);have ir:Hid (V w az):=by rw[<-oX];exact(ax _ _).alloc (aL _) _
 have td:Hid (az.heap.size=w.heap.size+1):=by show _=_;rw[<-oX];simp
 have xc:Hid (∀j,az.cell? ⟨rs,j,none⟩=(#[.int .i64 0,.slice none 0 0,.slice none 0 0,.slice none 0 0]:Array Value)[j]?):=by
  rw[<-oX,k0];intro j;exact ja rfl
 have xd:Hid (∀j,az.frozen? ⟨rs,j,none⟩=false):=by
  rw[<-oX,k0];intro j;exact World.frozen?_alloc_at _ _ _ _ rfl
 rw[<-k0];have qw:w.heap.size<=rs:=by omega
 have Cd:rs<az.heap.size:=by have:=td.out;omega
 have cy:=(ir.cell (p:=⟨ab,1,none⟩) pt).trans afV;have CL:Hid (eM az.heap.size az S N):=((GR.to (ir.mono aM)).mono (bL aM ir.size))
 have Z6:Hid (th az ab S N):=Z5.to ir;have Rh:ab<az.heap.size:=by have:=td.out;omega
 clear oX k0 GR Z5;obtain⟨a1,ux⟩:=cf (S.a1);obtain⟨c1,lF⟩:=cf (S.c1);rw[<-ux,<-lF] at cy
 change Hid _ at ux lF
 clear afV;have uf:Hid (∀B:World,V az B->B.cell? ⟨ab,1,none⟩=some (.slice a1 n c1)):=fun B D=>(D.cell (p:=⟨ab,1,none⟩) Rh).trans cy
 refine at3 (fun eP B=>∃E M aK ai,eP=⟨#[.pointer (some ⟨ab,0,none⟩),undef,.pointer (some ⟨rs,0,none⟩),.pointer (some ⟨ai,0,none⟩),undef,undef,undef,undef,undef,undef,undef,undef,undef,undef,undef,.pointer (some ⟨E,0,none⟩),.pointer (some ⟨ab,0,none⟩),.pointer (some ⟨ab,0,none⟩),.pointer (some ⟨ab,0,none⟩),.pointer (some ⟨ab,1,none⟩),.slice a1 n c1,.int .i64 n,.slice (some ⟨aK,0,none⟩) n n,.agg #[.pointer (some ⟨E,0,none⟩),.pointer (some ⟨ab,0,none⟩),.slice none 0 0,.slice none 0 0,.slice none 0 0,.slice (some ⟨aK,0,none⟩) n n],.pointer (some ⟨ai,0,none⟩),undef,undef,undef,undef,undef,undef,undef,undef,undef,undef,undef,undef,undef,undef,undef,undef,undef,undef,undef,undef,undef,undef,undef,undef,undef,undef,undef,undef,undef,undef,undef,undef,undef,undef,undef,undef,undef,undef,undef,undef,undef,undef,undef,undef,undef,undef,undef,undef,undef,undef,undef,undef,undef,undef,undef,undef,undef,undef,undef,undef,undef,undef,undef,undef,undef,undef,undef,undef,undef,undef,undef,undef,undef,undef,undef,undef,undef,undef,undef,undef,undef,undef,undef,undef,undef,undef,undef,undef,undef,undef,undef,undef,undef,undef,undef,undef,undef,undef,undef,undef,undef,undef,undef,undef,undef,undef,undef,undef,undef,undef,undef,undef,undef,undef],[]⟩∧HB az.heap.size az B E M ai ab aK n) ?_ ?_
 ·clear mX aG CL Z6 jR l9 xc xd;refine mR ?_;refine ih (S:=(fun B=>B.cell? ⟨ab,1,none⟩=some (.slice a1 n c1))) (by kernel_rfl) (by exact cy) (fun ii=>?_);refine R 1 ?_;refine R 2 ?_;refine R 3 ?_;refine R 4 ?_;refine R 5 ?_;refine R 6 ?_;refine wpAnyH_ready (rs:=[0,7]) (by kernel_rfl) (by simp) ?_;refine j9 (o:=_) rfl (fun aj W=>?_) ?_
  ·(try simp only[bf,bg]);go_simp;go_at_call 48;refine(T4 _).mono ?_;rintro e ahW ⟨rfl,rE,lh,-⟩;have B4:=Ad (a:=az) b7 lh;go_wp2_with fail
   refine aQ W (by exact uf _ B4) fun ant=>?_
   clear W aj;refine rd 7 fun aj W=>?_
   refine agn rfl (.tmp 21) (.tmp 21) 99 rfl az.heap.size 22 ev _ 1 Tryz.underlying99 eB fb em .i64 .i64 (n:Int) (n:Int) n rfl rfl rfl rfl ke jc (by first | exact aL _ | exact B4.size) ?_;intro OX bc br;have Dx:=B4.trans ((tw br).mono B4.size);rw[Xi] at bc;refine aQ W (by exact uf _ Dx) fun anu=>?_
   clear W aj;refine R 8 ?_;refine rd 9 fun aj W=>?_
   (try simp only[bf,bg,bh]);go_simp;refine aQ W (by exact uf _ (Dx.alloc Dx.size _)) fun QH=>?_
   clear W aj;refine R 10 ?_;refine gn (by kernel_rfl) ?_ _;refine j8 ?_;refine⟨rfl,_,az.heap.size,_,_,rfl,?_⟩;have iA:az.heap.size<=az.drew.heap.size:=aL _;have jW:=(bc.lt _ rfl).2;refine HB.of (w2:=OX) (t:=102) (((acz (C:=az.heap.size) (Ps:=fun _=>False) rE iA (by omega) iA (fun b D=>D.elim)).add (tw br) (aL _) jW).less (fun b D=> .inr D)) bc Dx rfl
  refine j9 (o:=_) rfl (fun aj W=>?_) q6;refine agn rfl (.tmp 21) (.tmp 21) 99 rfl az.heap.size 22 ev _ 1 Tryz.underlying99 eB fb em .i64 .i64 (n:Int) (n:Int) n rfl rfl rfl rfl ke jc (by first | exact aL _ | exact B4.size) ?_;intro OX bc br;have Dx:=Ad (a:=az) b7 (tw br);rw[Xi] at bc;refine aQ W (by exact uf _ Dx) fun anu=>?_
  clear W aj;refine rd 0 fun aj W=>?_
  (try simp only[bf,bg]);go_simp;go_at_call 48;refine(T4 _).mono ?_;rintro e ahW ⟨rfl,rE,lh,-⟩;have B4:=Dx.trans (lh.mono Dx.size);go_wp2_with fail
  refine aQ W (by exact uf _ B4) fun ant=>?_
  clear W aj;refine R 8 ?_;refine rd 9 fun aj W=>?_
  (try simp only[bf,bg,bh]);go_simp;refine aQ W (by exact uf _ (B4.alloc B4.size _)) fun QH=>?_
  clear W aj;refine R 10 ?_;refine gn (by kernel_rfl) ?_ _;refine j8 ?_;refine⟨rfl,_,OX.heap.size,_,_,rfl,?_⟩;have iA:az.heap.size<=OX.heap.size:=Dx.size;have jW:az.heap.size<OX.heap.size:=(bc.lt _ rfl).2;have l0:=lh.size;refine HB.of (w2:=ahW) (t:=102) (acz (C:=az.heap.size) rE iA (by omega) iA (fun b D=>by have D:b=az.heap.size:=D;omega)) (mx bc lh) B4 rfl
 rintro eP w1 ⟨E,M,aK,ai,rfl,ik⟩;obtain⟨C,eu⟩:=cf (az.heap.size);rw[<-eu] at ik Cd Rh CL;have ts:=Rh;have aaT:Hid (w.heap.size<=C):=by have:=td.out;show _<=_;omega
 have bD:Hid (Below C az w1):=ik.bel;have sy:Hid (∀B,Below C az B->V w B):=fun B D=>ir.trans (D.mono aaT)
 have eC:=K ik;have nc:Hid (eM C w1 S N):=CL.to bD;have G7:Hid (∀B,Below C az B->th B ab S N):=fun B D j v L=>(D.cell (p:=⟨ab,j,none⟩) ts).trans (Z6 j v L)
 have JA:Hid (∀B,Below C az B->eM C B S N):=fun B D=>CL.to D
 have ME:Hid (Calls Tryz.prog 49 #[.pointer (some ⟨ai,0,none⟩)] w1 fun e B=>e = .returned (.int .i64 ((oc N).sum:Nat))∧∃an u am,kR C w1 B E M ai 2 (1+(oc N).sum) (fun b=>b=aK) an u (gL 1 (oc N)) am):=by
  refine aqx C w1 E M ai ab 1 N.ins.length S.c0 S.a0 (fun b=>b=aK) (oc N) ik.lay (ik.cs 0) (ik.cs 1) (G7 w1 bD 0 _ rfl) (by show _=_;unfold oc;simp) ?_ aI ?_ ?_
  ·have e:(oc N).map (fun(m:Nat)=>j4 (m:Int))=N.ins.map j4:=by
    unfold oc;rw[List.map_map];refine o8 (fun x J=>?_)
    have:=(KW aG J).1
    show j4 ((x.toNat:Nat):Int)=j4 x;rw[show((x.toNat:Nat):Int)=x by omega]
   show cm _ _ _ _ _;rw[e];exact nc.i
  ·intro m ae;obtain⟨x,J,rfl⟩:=i6.1 ae
   have:=KW aG J
   omega
  ·intro k
   have:=ON (oc N) k
   have e:(oc N).sum=hH N.ins:=rfl
   have:=Pp.out
   omega
 clear ik uf T4 eB fb em ke jc cy Rh CL td;go_wp2_with fail
 go_at_call 49;refine ME.mono ?_;rintro e w2 ⟨rfl,qk,u1,aAv,pq⟩;have sz:=K pq;clear pq ME;generalize Kr:(oc N).sum=nI at *;go_upto_region 3 with fail
 generalize hy:World.alloc w2 _=v;obtain⟨aX,np⟩:=cf (w2.heap.size);rw[<-np];have uc:=K (sz.graph eC.cs hy);rw[<-np] at uc;have ld:Hid (v.heap[aX]?=some (.cells #[.int .i64 (nI:Int),.slice none 0 0,.slice none 0 0,.slice none 0 0] 38 (0,0))):=by
  rw[<-hy,np];exact h8 _ _
 have S7:Hid (Below C az v):=bD.trans (sz.kp.below.trans (uc.2.2.2.2.mono (by rw[np];exact sz.gt.lo.2.2)));have Bz:Hid (C<=aX∧aX≠aK∧aX≠ai∧aX<v.heap.size):=by
  have iA:=sz.gt.lo.2.2;have jW:=(sz.gt.ps aK (.inl (sz.sub aK rfl))).1;have l0:=(sz.gt.ps ai (.inr (.inl rfl))).1;refine⟨by omega,by omega,by omega,?_⟩;rw[<-hy,np];simp
 have aac:Hid (v.ownsRow C 22 1 (.slice (some ⟨aK,0,none⟩) n n) n (List.replicate n (.slice none 0 0))):=zD (zD eC.ow (sz.kp.block aK rfl)) (uc.2.2.2.2.block aK (by rw[np];exact(sz.gt.ps aK (.inl (sz.sub aK rfl))).1));have aad:Hid (lq qk u1 aK∨aK=aX):= .inl (.inl (sz.sub aK rfl));clear hy np sz eC bD nc;obtain⟨rp,Fz⟩:∃P:Nat->Prop,P=fun b=>lq qk u1 b∨b=aX:=⟨_,rfl⟩
 have TF:Hid (rp aX):=by rw[Fz];exact .inr rfl
 have TE:Hid (rp aK):=by rw[Fz];exact aad
 rw[<-Fz] at uc;clear Fz aad;have aa7:Hid (Calls Tryz.prog 50 #[.pointer (some ⟨ai,0,none⟩)] v _):=aqy C v E M ai ab (1+nI) rp S N uc.1 (JA v S7) aG (G7 v S7) ts F O (by have:=Pp.out;have:=jR.out;have e:(oc N).sum=hH N.ins:=rfl;omega);go_wp2_with fail
 go_at_call 50;refine aa7.mono ?_;rintro e gZ ⟨⟨ahV,rfl⟩,oS,rH,adL,uz,bz,tt,-,Rr,Rs⟩;have jg:=K (show _∧_∧_∧_∧_∧_∧_ from ⟨rH,adL,uz,bz,tt,Rr,Rs⟩);have S8:Hid (Below C az gZ):=S7.trans bz.below;clear rH adL uz bz tt Rr Rs aa7;have tg:=K (arA C gZ ab S N (JA gZ S8) aG (G7 gZ S8) (by rw[<-bP.out];exact hY) F cw aW mX);rw[<-bP.out] at tg;go_wp2_with fail
 go_at_call 51;refine tg.mono ?_;rintro e nC ⟨ng,need,rfl,NN,qs,cb⟩;have qh:=K cb;have Zt:=K qs;have Pj:Hid (Below C az nC):=S8.trans (qs.be.mono jg.2.2.1.lo.2.2);have aoL:=(qs.ow.lt ng rfl).2;have bp:fZ N=1+nI+h4 N.regs+ha N.mems:=by unfold fZ;rw[<-Kr];rfl
 have Pu:=K (ash (ng:=ng) uc.1 uc.2.1 uc.2.2.1 uc.2.2.2.1 TE aac jg.1 jg.2.1 jg.2.2.1 jg.2.2.2.1 jg.2.2.2.2.1 jg.2.2.2.2.2.1 jg.2.2.2.2.2.2 qs.be ⟨NN,aoL⟩ (ah0 (fun m ae=>by obtain⟨x,J,rfl⟩:=i6.1 ae;have:=(KW aG J).1;omega)) (ah0 (fun m ae=>by obtain⟨x,J,rfl⟩:=i6.1 ae;have:=((q1 aG).reg x J).1;omega)) (fun ws hg=>by
   obtain⟨k,X⟩:=List.mem_iff_getElem?.1 hg;obtain⟨z,ao⟩:=bS (l:=N.mems) (k:=k) (by have:=(cr.1 X).1;rw[Oh] at this;exact this);obtain⟨m1,m2,nU,-⟩:=(DZ aG).each k z ao;have e:(nV N).getD k []=ws:=by
    show(px (1+hH N.ins+h4 N.regs) N.mems).getD k []=ws
    have Ka:(1+hH N.ins+h4 N.regs)=1+nI+h4 N.regs:=by rw[<-Kr];rfl
    rw[Ka,iH,X];rfl
   rw[e] at m2 nU;have apL:=Ok aG (bn ao);refine⟨fun aS=>(by rw[aS] at m2;simp at m2),fun l hl aS=>?_⟩
   have:=(nU l hl).2
   rw[aS] at this;simp at this;omega) ⟨TF,Bz.2.1⟩)
 rw[show gL 1 (oc N)=uH N from rfl,show gL (1+nI) (N.regs.map fun r=>r.width.toNat)=tA N by unfold tA rQ;rw[<-Kr];rfl,show px (1+nI+h4 N.regs) N.mems=nV N by unfold nV;rw[<-Kr];rfl,<-bp] at Pu;have aah:Hid ((oS ng∨ng=ai∨ng=ng)∧ng≠aK):=⟨.inr (.inr rfl),fun e=>by have:=(jg.2.2.1.ps aK (.inl (jg.1 aK TE))).1;omega⟩
 have aag:Hid ((oS aX∨aX=ai∨aX=ng)∧aX≠aK):=⟨.inl (jg.1 aX TF),Bz.2.1⟩
 have Zy:Hid (nC.heap[aX]?=some (.cells #[.int .i64 (nI:Int),.slice none 0 0,.slice none 0 0,.slice none 0 0] 38 (0,0))):=Pu.2.trans ld;have aiP:Hid ((hH N.ins:Nat)=nI):=Kr;have Z8:=K Pu.1;clear NN qs cb bp Kr uc jg aac TE tg Pu TF ld;obtain⟨jZ,QJ⟩:∃P:Nat->Prop,P=fun b=>(oS b∨b=ai∨b=ng)∧b≠aK:=⟨_,rfl⟩
 have rj:Hid (pj C nC nC E M (fZ N) ai ab aK [] jZ jZ (uH N) (tA N) (nV N) (List.replicate n [])):=by rw[QJ];exact Z8
 have Wk:jZ ng:=by rw[QJ];exact aah
 have aaf:Hid (jZ aX):=by rw[QJ];exact aag
 clear QJ Z8 aah aag;have y3:Hid (∀(k:Nat) (b:Bool),need[k]?=some b->nC.cell? ⟨ng,k,none⟩=some (.bool b)):=fun k b D=>Zt.at D
 have Y9:=K (JA nC Pj);have afU:nC.cell? ⟨ab,1,none⟩=some (.slice S.a1 n S.c1):=by rw[bP.out];exact G7 nC Pj 1 _ rfl
 go_upto_block 0 with fail
 refine ak5 C nC E M (fZ N) ai ab aK ng n jZ (uH N) (tA N) (nV N) S N need ⟨rfl,rfl,rfl,rfl⟩ bP hY rj Y9 aG qh afU ts Wk y3 _ _ (K ?_) (K ?_)
 ·intro a oJ p kr ad5 Rn ad6;have bd:=K (show _∧_∧_ from ⟨ad5,Rn,sy _ (Pj.trans ad6)⟩)
  change Hid _ at kr
  clear ad5 Rn ad6;go_wp2;exact⟨kr,LR.throw qh bd.1 bd.2.1 bd.2.2⟩
 intro al yU GA uT uU uW tG tH tI uX uY wA wB wD wE wF wG wH wI xW xX xY xZ x0 hcut;obtain⟨an,Il⟩:=hcut;have BD:=K Il;have EO:=K (Il.graph aaf Bz.1 Zy);have S2:Hid (Below C az al):=Pj.trans Il.kp.below;have afW:al.cell? ⟨ab,2,none⟩=some (.slice S.a2 N.regs.length S.c2):=G7 al S2 2 _ rfl;have gg:=K (JA al S2);have mM:=awt gg aG qh;rw[<-bP.out] at mM;have Ul:=Il.b5;rw[mM] at Ul;have lx:Hid (∀(i:Nat) (l:List Int),(h6 N need).2[i]?=some l->l≠[]->∃x,al.cell? ⟨aK,i,none⟩=some x∧cv (cK an aK) al x l):=Il.bl.b6;have FV:cK an aK ai∧ai≠aX:=⟨.inl Il.qb,fun e=>Bz.2.2.1 e.symm⟩
 have KM:cK an aK aK∧aK≠aX:=⟨.inr rfl,fun e=>Bz.2.1 e.symm⟩
 have ajl:Hid (∀b,(cK an aK b∧b≠aX)↔cK an aK b∧b≠aX):=fun b=>Iff.rfl
 have ZD:=K EO.2.1;have ZB:=K EO.1.i;have Hj:=K gg.r;have E6:Hid (∀r,r∈N.regs->0<=r.next∧0<=r.init∧r.init<18446744073709551616∧0<((h6 N need).2.getD r.next.toNat []).length∧((h6 N need).2.getD r.next.toNat []).length<=64):=fun r ak=>by
  obtain⟨iA,jW,l0⟩:=GC ((yN aG).2.1 r ak);have s3:=(GD gg aG qh iA jW (qh.regs r ak)).len;have YK:=((q1 aG).reg r ak).1;have aBa:=gg.ra r ak;rw[s3,l0];omega
 have ZW:Hid (∀k,(m7 (h6 N need).2 (N.regs.take k)).length<=6000):=fun k=>by
  rw[Sf gg aG qh k];have iA:=ON (N.regs.map fun r=>r.width.toNat) k;have jW:h4 (N.regs.take k)=((N.regs.map fun r=>r.width.toNat).take k).sum:=by unfold h4;rw[List.map_take]
  have l0:h4 N.regs=(N.regs.map fun r=>r.width.toNat).sum:=rfl
  have:=jR.out
  omega
 change Hid _ at mM
 clear Il rj y3 Y9 afU aaf Zy Zt
 go_upto_block 2 with fail
 refine ak3 C al E M (fZ N) ai ab aK aX n N.regs.length S.c2 S.a2 (h6 N need).1 (cK an aK) (fun b=>cK an aK b∧b≠aX) (h6 N need).2 N ajl ZD ZB Ul lx FV KM mM ts afW (K rfl) F Hj E6 ZW _ _ (K ?_);intro aH OU Yz tJ tK tL tM tN tO tP tQ tR tS tT tU tV tW tX tY tZ t0 t1 t2 t3 t4 wL wM wN wO wP wQ wR hcut;obtain⟨u6,RV,uA⟩:=hcut;have h5:=K uA;have Pd:Hid (Below C az aH):=S2.trans uA.kp.below;have L7:Hid (wY aH ai E ab aK (cK an aK) (uH N) (tA N) (nV N) (h6 N need).2):=BD.bl.box (fun x J e=>by
   obtain⟨k,X⟩:=List.mem_iff_getElem?.1 J;obtain⟨z,ao⟩:=bS (l:=N.mems) (k:=k) (by have:=(cr.1 X).1;have Ka:(nV N).length=N.mems.length:=Oh _ _;omega);obtain⟨m1,m2,nU,-⟩:=(DZ aG).each k z ao;rw[iH,X,e] at m2;simp at m2) EO.1 FV.2 KM.2 (fun b D ag=>uA.kp.block b ⟨D,ag⟩) (uA.oth 0 (by decide))
 have aiO:Hid (bZ C aH E M (fZ N) (h6 N need).1 (fun b=>cK an aK b∨u6.ownBlock=some b)):=uA.gt.less (fun b D=>by
  rcases D with D | D
  ·by_cases e:b=aX
   ·exact .inr (.inl e)
   ·exact .inl ⟨D,e⟩
  ·exact .inr (.inr D))
 obtain⟨-,-,ej,HX⟩:=P2 gg aG qh;have Fe:=K (awL C aH E M (fZ N) (h6 N need).1 _ aiO ai ab aK (uH N) (tA N) (nV N) (h6 N need).2 S N (L7.more (fun b D=> .inl D)) (cK an aK) (fun b D=> .inl D) L7.b4 (JA aH Pd) aG (G7 aH Pd) ts O aW HX ej (fun z ao=>by
  obtain⟨⟨qa,mB,qc,GJ⟩,LL,aib⟩:=(q1 aG).wr z ao;obtain⟨iG,hT,Ge⟩:=GC LL;obtain⟨d1,d2,qP⟩:=GC aib;obtain⟨k1,k2,k3⟩:=qh.wrs z ao;have lI:=(GD gg aG qh qc GJ k2).len;have zx:=(GD gg aG qh d1 d2 k3).len;have en:=Jm aG (a:=z.addr) (by omega);have e1:=Jm aG (a:=z.data) (by omega);refine⟨⟨qa,iG,qc,d1⟩,fun e=>?_,fun e=>?_⟩
  ·rw[e] at lI;simp at lI;omega
  ·rw[e] at zx;simp at zx;omega))
 clear uA ej HX ZD ZB Hj E6 ZW lx afW Ul;rw[show qF (fZ N) (h6 N need).2 N.wrs (h6 N need).1 (nV N)=gU N need from rfl] at Fe;go_wp2_with fail
 go_at_call 54;refine Fe.mono ?_;rintro e dN (⟨ae,aAs,lB,rfl,aJ,af,X,V5⟩ | ⟨ae,⟨O6,rfl,bq⟩,D⟩);rotate_left
 ·have bd:=K (show _∧_∧_ from ⟨ae,bq,sy _ (Pd.trans D)⟩);clear ae bq D;unfold fI;go_wp2;exact⟨rfl,LR.throw qh bd.1 bd.2.1 bd.2.2⟩
 have JN:=K ae;have JS:=K aJ;have ub:=K af;have G4:=K X;have Z2:=K V5;obtain⟨akl,alk,apw⟩:=V5.ints;subst apw;have air:Hid (Below C az dN):=Pd.trans X.below;have Tg:Hid (∀j,dN.cell? ⟨aX,j,none⟩=aH.cell? ⟨aX,j,none⟩):=fun j=>dA (a:=⟨aX,j,none⟩) (X.block aX (.inl EO.2.2.2))
 obtain⟨BK,QK⟩:∃P:Nat->Prop,P=fun b=>lB b∧b≠aX∧u6.ownBlock≠some b:=⟨_,rfl⟩
 have ZE:Hid (i7 C dN dN E M aX 1 (fZ N) (gU N need).1 BK 81 2 u6 RV ((m7 (h6 N need).2 N.regs).flatMap eA.cells)):=by rw[QK];exact h5.after EO.2.2.2 aJ af X
 have JT:Hid (∀b,cK an aK b->b≠aX->BK b):=fun b D ag=>by rw[QK];exact⟨JS b (.inl D),ag,(h5.ap b ⟨D,ag⟩).2⟩
 have TK:Hid (∀b,(lB b∧¬(cK an aK b∨u6.ownBlock=some b))->BK b):=fun b D=>by rw[QK];exact⟨D.1,fun e=>D.2 (.inl (by rw[e];exact EO.2.2.2)),fun e=>D.2 (.inr e)⟩
 have aaY:Hid (∀b,(lB b∧(cK an aK b∨¬(cK an aK b∨u6.ownBlock=some b)))->b≠aX->BK b):=fun b D ag=>by
  rcases D.2 with h | h
  ·exact JT b h ag
  ·exact TK b ⟨D.1,h⟩
 have CS:Hid (∀j,j≠1->aH.cell? ⟨aX,j,none⟩=(#[.int .i64 (nI:Int),.slice none 0 0,.slice none 0 0,.slice none 0 0]:Array Value)[j]?):=fun j aT=>(h5.oth j aT).trans (EO.2.2.1 j)
 have Th:Hid (∀j x,dN.cell? ⟨aX,j,none⟩=some (.int .i64 x)->j=0):=fun j x J=>h5.ints (fun j _=>EO.2.2.1 j) j x ((Tg j).symm.trans J)
 have vt:=UH gg aG qh;have Rc:(gU N need).2.length<=1048576:=by rw[vt.len];exact O
 have aaW:Hid (∀ws,ws∈(gU N need).2->ws.length<=1048576∧∀l,l∈ws->0<l.length∧l.length<=64):=fun ws hg=>by
  obtain⟨k,X⟩:=List.mem_iff_getElem?.1 hg;obtain⟨z,ao⟩:=bS (l:=N.mems) (k:=k) (by have:=(cr.1 X).1;have:=vt.len;omega);obtain⟨m1,m2,nU,-⟩:=vt.each k z ao;rw[iH,X] at m1 m2 nU;simp only[Option.getD_some] at m1 m2 nU;have apL:=Ok aG (bn ao);refine⟨by omega,fun l hl=>?_⟩
  have:=(nU l hl).2
  omega
 have ZX:Hid (∀(hD Sa:List (List Int)),hD++Sa=(gU N need).2.flatten->(m7 (h6 N need).2 N.regs++hD.flatMap (fun l=>ju l 0)).length<=6000):=fun hD Sa FW=>by
  have iA:=Sf gg aG qh N.regs.length;rw[fQ (aL _)] at iA;have jW:=Xk gg aG qh;rw[ae9,<-FW,s4,jw] at jW;rw[jw,iA]
  have:=jR.out
  omega
 have Pt:=Z2;clear ae aJ af X V5 QK vt Fe Z2
 go_upto_block 4 with fail
 refine ak4 C dN E M (fZ N) aX _ alk akl (gU N need).1 (fun b=>lB b∧¬(cK an aK b∨u6.ownBlock=some b)) (fun b=>lB b∧(cK an aK b∨¬(cK an aK b∨u6.ownBlock=some b))) BK (gU N need).2 (m7 (h6 N need).2 N.regs) u6 RV ZE Th Pt TK aaY (K rfl) Rc aaW ZX _ _ (K ?_);intro g0 LA Ss x3 x4 x5 x6 x7 x8 x9 wS wT v4 v5 v6 v7 v8 v9 wa wb we hcut;obtain⟨u8,Cn,DB⟩:=hcut;have yg:=K DB;have S3:Hid (Below C az g0):=air.trans DB.kp.below;have Bx:Hid (∀j,j≠1->g0.cell? ⟨aX,j,none⟩=(#[.int .i64 (nI:Int),.slice none 0 0,.slice none 0 0,.slice none 0 0]:Array Value)[j]?):=fun j aT=>(DB.oth j aT).trans ((Tg j).trans (CS j aT))
 have ZF:Hid (i7 C g0 g0 E M aX 3 (fZ N) (gU N need).1 (lq BK u8) 3 1 (.slice none 0 0) 0 []):=DB.other (Bx 3 (by decide));have ajm:Hid (∀b,cK an aK b->b≠aX->lq BK u8 b):=fun b D ag=> .inl (JT b D ag)
 have ZC:Hid (∀j x,g0.cell? ⟨aX,j,none⟩=some (.int .i64 x)->j=0):=DB.ints (fun j aT=>(Tg j).trans (CS j aT));have QT:∀b,cK an aK b->b≠aX->g0.heap[b]?=aH.heap[b]?:=fun b D ag=>(DB.kp.block b (JT b D ag)).trans (G4.block b (.inl D))
 have abI:g0.cell? ⟨ai,5,none⟩=some (.slice (some ⟨aK,0,none⟩) n n):=by
  have e:=(dA (a:=⟨ai,5,none⟩) (QT ai FV.1 FV.2)).trans L7.b5;rw[mM.out] at e;exact e
 have abH:g0.cell? ⟨ai,0,none⟩=some (.pointer (some ⟨E,0,none⟩)):=(dA (a:=⟨ai,0,none⟩) (QT ai FV.1 FV.2)).trans L7.b0;have Ze:Hid (∀(i:Nat) (l:List Int),(h6 N need).2[i]?=some l->l≠[]->∃x,g0.cell? ⟨aK,i,none⟩=some x∧cv (cK an aK) g0 x l):=fun i l hl ag=>by
  obtain⟨x,J,aw⟩:=L7.b6 i l hl ag;exact⟨x,(dA (a:=⟨aK,i,none⟩) (QT aK KM.1 KM.2)).trans J,(aw.keep (fun b D=>G4.block b (.inl D))).box Th (fun b D ag=>DB.kp.block b (JT b D ag)) (DB.oth 0 (by decide))⟩
 have ad1:lq BK u8 ai:= .inl (JT ai FV.1 FV.2);have ao3:lq BK u8 aK:= .inl (JT aK KM.1 KM.2);have aaC:=K (JA g0 S3).o;have aax:Hid (∀o,o∈N.outs->0<=o∧0<((h6 N need).2.getD o.toNat []).length∧((h6 N need).2.getD o.toNat []).length<=64):=fun o aY=>by
  obtain⟨iG,hT⟩:=(yN aG).2.2.2 o aY;have s3:=(GD gg aG qh iG hT (qh.outs o aY)).len;have YK:=Jm aG (a:=o) (by omega);rw[s3];omega
 have ZY:Hid (∀k,(rP (h6 N need).2 (N.outs.take k)).length<=60000):=fun k=>by
  rw[XA gg aG qh k];have iA:=ON (N.outs.map fun a=>(f2 N a).toNat) k;have jW:ki N (N.outs.take k)=((N.outs.map fun a=>(f2 N a).toNat).take k).sum:=by unfold ki;rw[List.map_take]
  have l0:ki N N.outs=(N.outs.map fun a=>(f2 N a).toNat).sum:=rfl
  have:=l9.out
  omega
 have g5:g0.cell? ⟨ab,5,none⟩=some (.slice S.a5 N.outs.length S.c5):=G7 g0 S3 5 _ rfl;clear DB QT ZE TK aaY aaW ZX Pt Th
 go_upto_block 8 with fail
 refine ak6 C g0 E M (fZ N) ai aK aX n N.outs.length S.c5 S.a5 (gU N need).1 (cK an aK) (lq BK u8) (h6 N need).2 N ajm ZF ZC abI Ze ad1 ao3 mM (K rfl) cw aaC aax ZY _ _ (K ?_);intro gH uS wf wg wh wj wk wm wo wp wq wu wv Su Sv Sw Sx Sy hcut;obtain⟨u9,D2,vx⟩:=hcut;have Zf:Hid (Below C az gH):=S3.trans vx.kp.below;obtain⟨J7,MT,acE,U5,U6⟩:=vx.gt.ands;have acQ:=afG yg.ow (fun b D=>vx.kp.block b (.inr D));obtain⟨Ff,Fi,apr⟩:=Gh yg.ow;obtain⟨HG,sH,aps⟩:=Gh vx.ow;have adG:Cn=(kc N need).lats.length:=by
  have:=yg.ow.1
  rw[(Og _).1] at this;show Cn=(m7 (h6 N need).2 N.regs++sZ (gU N need).2).length;omega
 have adJ:D2=(kc N need).outs.length:=by
  have:=vx.ow.1
  rw[lb] at this;show D2=(rP (h6 N need).2 N.outs).length;omega
 subst apr aps;have akK:gH.cell? ⟨ai,0,none⟩=some (.pointer (some ⟨E,0,none⟩)):=(dA (a:=⟨ai,0,none⟩) (vx.kp.block ai ad1)).trans abH;have mB:gH.cell? ⟨aX,2,none⟩=some (.slice none 0 0):=(vx.oth 2 (by decide)).trans (Bx 2 (by decide));have awU:=vx.fz 2;have ajJ:Hid (gH.cell? ⟨aX,0,none⟩=some (.int .i64 (nI:Int))):=(vx.oth 0 (by decide)).trans (Bx 0 (by decide));have C9:Hid (gH.cell? ⟨aX,1,none⟩=some (.slice Ff Cn Fi)):=(vx.oth 1 (by decide)).trans yg.fld;have ajK:=K vx.fld;have ajc:=K vx.ow;have ZV:Hid ((Value.slice Ff Cn Fi).ownBlock≠some aX∧(Value.slice HG D2 sH).ownBlock≠some aX):=⟨yg.ne,vx.ne⟩
 have ayR:=vx.here
 change Hid _ at vx U5 U6 acQ adG adJ
 clear ZF Ze aaC aax ZY ZC g5 abI abH;obtain⟨RX,V7⟩:=cf ((gU N need).1.length);have ri:=K V7;rw[<-V7] at acE U5 U6;clear V7;go_upto_region 31 with fail
 generalize Kv:World.setCell gH _ _=GB;have Zx:Hid (gH.grownBy GB (some aX)):=by rw[<-Kv];exact oW _ _ _ _
 have m3:GB.cell? ⟨aX,0,none⟩=some (.int .i64 (nI:Int)):=by rw[<-Kv];exact(oL (h:=by simp) ..).trans ajJ.out
 have k1:GB.cell? ⟨aX,1,none⟩=some (.slice Ff Cn Fi):=by rw[<-Kv];exact(oL (h:=by simp) ..).trans C9.out
 have k2:GB.cell? ⟨aX,2,none⟩=some (.slice J7 RX MT):=by rw[<-Kv];exact on (h:=mB) ..
 have k3:GB.cell? ⟨aX,3,none⟩=some (.slice HG D2 sH):=by rw[<-Kv];exact(oL (h:=by simp) ..).trans ajK.out
 have zN:Hid (Below C az GB):=Zf.trans (jB Zx (by rw[eu];exact Zf.size) (fun k X=>by cases X;exact Bz.1));have mz:=(zN.cell (p:=⟨rs,0,none⟩) Cd).trans (xc 0);have io:=(zN.cell (p:=⟨rs,1,none⟩) Cd).trans (xc 1);have jM:=(zN.cell (p:=⟨rs,2,none⟩) Cd).trans (xc 2);have lZ:=(zN.cell (p:=⟨rs,3,none⟩) Cd).trans (xc 3);have pl:=(zN.frozen (p:=⟨rs,0,none⟩) Cd).trans (xd 0);have sM:=(zN.frozen (p:=⟨rs,1,none⟩) Cd).trans (xd 1);have oU:=(zN.frozen (p:=⟨rs,2,none⟩) Cd).trans (xd 2);have yw:=(zN.frozen (p:=⟨rs,3,none⟩) Cd).trans (xd 3);simp at mz io jM lZ;have azw:rs<GB.heap.size:=by have:=zN.size;omega
 clear Kv mB awU akK acE;go_wp2;obtain⟨oK,iA,jW,l0⟩:=Sk mz io jM lZ (.int .i64 (nI:Int)) (.slice Ff Cn Fi) (.slice J7 RX MT) (.slice HG D2 sH);have Tf:=K (OJ GB rs (.int .i64 (nI:Int)) (.slice Ff Cn Fi) (.slice J7 RX MT) (.slice HG D2 sH));generalize World.setCell _ (⟨rs,3,none⟩:Addr) _=avV at Tf oK iA jW l0 ⊢;clear mz io jM lZ pl sM oU yw m3 k1 k2 k3;refine bodyPost_ret (v:= .agg #[.int .i64 (nI:Int),.slice Ff Cn Fi,.slice J7 RX MT,.slice HG D2 sH]) (by simp[results,Tryz.results27,go_sem, *]) rfl ?_;have cb:∀{x:Value} {t gx m:Nat} {xs:List Value},gH.ownsRow C t gx x m xs->x.ownBlock≠some aX->avV.ownsRow C t gx x m xs:=fun h J=>(h.kept Zx (.inr J)).kept Tf (by
  rcases IP h Cd with e | e
  ·exact .inl e
  ·exact .inr e)
 have Dk:=cb acQ ZV.1;have Ka:=cb ajc ZV.2;have HO:=cb U5 (U6 aX (.inr (.inl rfl)));have dL:(m7 (h6 N need).2 N.regs++sZ (gU N need).2).flatMap eA.cells=((kc N need).lats.map eA.cells).flatten:=by rw[List.flatMap_def];rfl
 have awR:(gU N need).1.flatMap Z.cells=((kc N need).ands.map Z.cells).flatten:=by rw[List.flatMap_def];rfl
 rw[dL] at Dk;rw[awR] at HO;have zd:w.heap.size<=C:=aaT.out;have ai7:Hid (∀b o,Ff=some ⟨b,o,none⟩->w.heap.size<=b):=fun b o e=>by have:=(Dk.lt b (by rw[e];rfl)).1;omega
 have ai8:Hid (∀b o,HG=some ⟨b,o,none⟩->w.heap.size<=b):=fun b o e=>by have:=(Ka.lt b (by rw[e];rfl)).1;omega
 have ai9:Hid (∀b o,J7=some ⟨b,o,none⟩->w.heap.size<=b):=fun b o e=>by have:=(HO.lt b (by rw[e];rfl)).1;omega
 obtain⟨_,_,XK,akb⟩:=R8 Dk (by intro l hl;obtain⟨d,_,rfl⟩:=i6.1 hl;rfl) (by decide);obtain⟨_,_,afZ,akd⟩:=R8 HO (by intro l hl;obtain⟨d,_,rfl⟩:=i6.1 hl;rfl) (by decide);obtain⟨_,_,_,XL,akc⟩:=s0 Ka;simp only[Value.slice.injEq,true_and] at XK afZ XL;obtain⟨rfl,rfl⟩:=XK;obtain⟨rfl,rfl⟩:=afZ;obtain⟨rfl,rfl⟩:=XL;refine⟨need,qh.out,.inl ⟨JN,⟨Ff,Fi,J7,MT,HG,sH⟩,?_,⟨akb,akd,akc,?_,?_,?_⟩,⟨ai7,ai9.out,ai8⟩,?_⟩⟩
 ·unfold jm.cells;rw[adG.out,adJ.out,ri.out];show _=Ending.returned (.agg #[.int .i64 ((hH N.ins:Nat):Int),_,_,_]);rw[aiP.out]
  rfl
 ·have iA:=Sf gg aG qh N.regs.length;rw[fQ (aL _)] at iA;have jW:=Xk gg aG qh
  show(m7 (h6 N need).2 N.regs++sZ (gU N need).2).length<cd
  rw[jw,iA,jW]
  have:=jR.out
  unfold cd;omega
 ·show(gU N need).1.length<cd
  have:=JN.out
  unfold cd;omega
 ·have iA:=XA gg aG qh N.outs.length;rw[fQ (aL _)] at iA
  show(rP (h6 N need).2 N.outs).length<cd
  rw[iA]
  have:=l9.out
  unfold cd;omega
 ·exact(sy _ zN).trans (jB Tf (sy _ zN).size (fun k X=>by have:=Option.some.inj X;omega))
end Go.Proofs.YtcbcenfjigcfkaaGreatDoor
