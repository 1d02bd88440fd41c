import Derived.Test.YtcbcenfjigcfkaaGreatDoorK40
set_option maxRecDepth 100000
set_option maxHeartbeats 40000000
namespace Go.Proofs.YtcbcenfjigcfkaaGreatDoor
open Go.RowKit
structure GN (G:eq) (ni n:Nat) (T:Nat->Prop) (nd:List Bool):Prop where
 good:lv G ni n T [] (nd,[])
 roots:∀r,r∈zE G->jG nd r
theorem alB (mH:Nat->Prop) (Y:Nat) (w:World) (E:Nat) (S:jm) (G:eq) (ni n:Nat) (hF:lc G ni n) (gW:o9 w E S G) (aO:iB Y w S G) (aM:Y<=w.heap.size) (uv:HA G ni mH) (Ng:∀v,v<1+ni+G.lats.length->mH v) :
  Calls Tryz.prog 28 #[.pointer (some ⟨E,0,none⟩),.bool true] w fun e B=>(∃nd T,GN G ni n mH nd∧e = .returned (.agg (T.cells (kg nd G)))∧iB B.heap.size B T (kg nd G)∧yo w.heap.size T)∧V w B:=by
 change Hid _ at uv Ng
 have BL:Hid (∀B,V w B->Calls Tryz.prog 29 #[.pointer (some ⟨E,0,none⟩)] B fun e bs=>e = .returned (.int .i64 (n:Int))∧∃k,bs=B.drewN k):=fun B aV=>by
  have:=SG B E S G (gW.to gW.lt aV) (by rw[hF.ins];omega) (by have:=hF.first;have:=hF.le;have:=hF.all;rw[hF.ins];omega) aO.ll aO.la
  rw[show G.vars=(n:Int) by unfold eq.vars eq.first;rw[hF.ins];have:=hF.first;have:=hF.all;omega] at this;exact this
 obtain⟨eE,ek,i1,Is,f0⟩:=IB;have ef:=hF.first;have iL:=hF.all;have qT:=hF.le;have KB:=hF.ll;have h0:=hF.lo;obtain⟨first,qr⟩:=cf (jC G);have CU:=K qr;rw[<-qr] at ef iL;have Ar:1+ni+G.lats.length<=first:=by omega
 have adg:first<=1+ni+G.lats.length:=by omega
 have vk:=K hF.ins;have nZ:=K hF;have mE:=K gW;have gg:=K aO;have lh:=gW.lt
 change Hid _ at ek i1 Is f0
 clear hF qr gW aO ef;have ke:eE.bytes*n<=281474976710656:=by rw[f0.out];omega
 have jc:n<=maxLen:=by simp only[maxLen];omega
 go_enter Tryz.func28,Tryz.ntmps28
 go_upto_region 1 with fail
 generalize oX:World.alloc w _=az;obtain⟨rs,k0⟩:=cf (w.heap.size);have ir:Hid (V w az):=by rw[<-oX];exact(ax _ _).alloc (aL _) _
 have td:Hid (az.heap.size=w.heap.size+1):=by show _=_;rw[<-oX];simp
 have xc:Hid (∀j,az.cell? ⟨rs,j,none⟩=(#[.int .i64 0,.slice none 0 0,.slice none 0 0,.slice none 0 0]:Array Value)[j]?):=by
  rw[<-oX,k0];intro j;exact ja rfl
 have xd:Hid (∀j,az.frozen? ⟨rs,j,none⟩=false):=by
  rw[<-oX,k0];intro j;exact World.frozen?_alloc_at _ _ _ _ rfl
 rw[<-k0];have qw:w.heap.size<=rs:=by omega
 have aec:rs<=w.heap.size:=by omega
 clear oX k0;go_wp2_with fail
 go_at_call 29;refine(BL _ ir).mono ?_;rintro e w1 ⟨rfl,UB,bT⟩;have bD:Hid (V az w1):=by rw[bT];exact Below.drewN (ax _ _) _
 have zl:az.heap.size<=w1.heap.size:=bD.size;have Wq:w1.heap.size<=az.heap.size:=by rw[bT];exact aL _
 clear bT;have tok:True:=trivial;go_upto_region 2 with (have _t:=tok;at_make;(refine wpList_make_full _ rfl (.tmp 14) (.tmp 14) 82 rfl w1.heap.size 4 eE _ 1 Tryz.underlying82 ek i1 Is .i64 .i64 (n:Int) (n:Int) n rfl rfl rfl rfl ke jc (aL _) ?_;intro w2 gX ij;have ud:=K gX;have y1:=K ij;clear tok gX ij))
 obtain⟨C,HV⟩:=cf (w1.heap.size);have BA:Hid (w2.ownsRow C 4 1 (.slice (some ⟨C,0,none⟩) n n) n ((List.replicate n false).map gi)):=by
  have:=ud.out
  rw[Xh,<-HV] at this;exact this
 rw[<-HV];generalize vv:World.alloc w2 _=w3;obtain⟨bl,DL⟩:=cf (w2.heap.size);have go:Hid (V w2 w3):=by rw[<-vv];exact(ax _ _).alloc (aL _) _
 have CN:Hid (V w1 w3):=(tw y1).trans (go.mono y1.size);have At:=(BA.lt C rfl).2;have em:w3.heap.size=w2.heap.size+1:=by rw[<-vv];simp
 have pe:Hid (∀j,w3.cell? ⟨bl,j,none⟩=(#[.pointer (some ⟨E,0,none⟩),.slice (some ⟨C,0,none⟩) n n,.slice none 0 0]:Array Value)[j]?):=by
  rw[<-vv,DL];intro j;exact ja rfl
 have Mw:Hid (∀j,w3.frozen? ⟨bl,j,none⟩=false):=by
  rw[<-vv,DL];intro j;exact World.frozen?_alloc_at _ _ _ _ rfl
 rw[<-DL];have anm:C<bl:=by omega
 have Wr:bl<w3.heap.size:=by omega
 have Va:C<=w3.heap.size:=by omega
 have NU:rs<C:=by have:=td.out;omega
 have uu:Y<=C:=by omega
 have xy:E<C:=by omega
 have hO:Hid (jP C w3 bl E C n (List.replicate n false,[]) (.slice none 0 0)) :=
  ⟨by simpa using pe 0,by simpa using pe 1,by simpa using pe 2,mx BA go,k8 _ _ _ _,Mw.out,by omega,Wr,by omega,by simp[Value.ownBlock],by simp[Value.ownBlock]⟩
 have E1:Hid (∀j,w3.cell? ⟨rs,j,none⟩=(#[.int .i64 0,.slice none 0 0,.slice none 0 0,.slice none 0 0]:Array Value)[j]?):=fun j=>(CN.cell (p:=⟨rs,j,none⟩) (by show rs<_;omega)).trans ((bD.cell (p:=⟨rs,j,none⟩) (by show rs<_;have:=td.out;omega)).trans (xc j))
 have E4:Hid (∀j,w3.frozen? ⟨rs,j,none⟩=false):=fun j=>(CN.frozen (p:=⟨rs,j,none⟩) (by show rs<_;omega)).trans ((bD.frozen (p:=⟨rs,j,none⟩) (by show rs<_;have:=td.out;omega)).trans (xd j))
 have ua:Hid (V w w3):=(ir.trans (bD.mono ir.size)).trans (CN.mono (by have:=ir.size;omega));have gq:w3.cell? ⟨E,0,none⟩=some (.int .i64 (ni:Int)):=(ua.cell (p:=⟨E,0,none⟩) lh).trans (by rw[<-vk.out];exact mE.c0);clear vv DL HV ud y1 BA go CN pe Mw xc xd ir bD ek i1 Is f0 ke jc td BL zl Wq At em;have HP:=bF ((1:Int)+(ni:Int))
 go_upto_block 0 with fail
 refine ab9 w3 C bl E C n ni _ hO Va qT (by omega) _ _ (K ?_);intro f1 GA LB LC LD LF Jg Jh LG LH hcut;obtain⟨C5,jF⟩:=hcut
 replace C5:=K C5
 replace jF:=K jF
 have Ir:=jF.size;have bY:f1.cell? ⟨E,1,none⟩=some (.slice S.a1 G.lats.length S.c1):=(jF.cell (p:=⟨E,1,none⟩) xy).trans ((ua.cell (p:=⟨E,1,none⟩) lh).trans mE.c1);clear hO
 go_upto_block 2 with fail
 refine alA f1 C bl E C n ni G.lats.length _ C5 (by omega) qT (by omega) ((jF.cell (p:=⟨E,0,none⟩) xy).trans gq) xy _ _ (K ?_);intro al OU tG tH tI uX uY wA wB wD wE wF wG wH wI hcut;obtain⟨⟨O3,xe⟩,cV⟩:=hcut
 replace xe:=K xe
 replace cV:=K cV
 have zm:=cV.size;have Pc:Hid (Below C w3 al):=jF.trans cV;have w6:Hid (lv G ni n mH [] (qO ni G.lats.length (n - (1+ni) - G.lats.length))):=by
  exact lv.begun nZ _ (aL _) Ng.out
 have GS:Hid (iB Y w3 S G):=gg.to (ua.mono aM);have h7:al.cell? ⟨E,3,none⟩=some (.slice S.a3 G.outs.length S.c3):=(Pc.cell (p:=⟨E,3,none⟩) xy).trans ((ua.cell (p:=⟨E,3,none⟩) lh).trans mE.c3);clear C5 bY jF cV
 go_upto_block 4 with fail
 refine aca al G mH C Y bl E C n ni S.a3 S.c3 _ O3 xe w6 uv (by omega) qT (GS.to (Pc.mono uu)).o uu (by omega) nZ.outs _ _ (K ?_);intro aH OV wJ wK uZ va vb tJ tK hcut;obtain⟨⟨rS,O4,zZ,h5,zY⟩,lx⟩:=hcut
 replace zZ:=K zZ
 replace h5:=K h5
 replace zY:=K zY
 replace lx:=K lx
 have FZ:=lx.size;have CO:Hid (Below C w3 aH):=Pc.trans lx;have L9:Hid (o9 w3 E S G):=mE.to lh ua;clear xe w6 h7
 go_upto_block 6 with fail
 refine acb aH G mH S C Y bl E C n ni nZ rS O4 zZ h5 uv zY (by omega) qT (L9.to xy CO) xy (GS.to (CO.mono uu)) uu _ _ (K ?_);intro dN LA OT tL tM tN tO tP tQ tR tS tT tU tV tW tX tY tZ t0 t1 t2 t3 t4 hcut;obtain⟨⟨nd,YH,C6,ub,Ms⟩,ye⟩:=hcut;have Ta:Hid (GN G ni n mH nd):=⟨ub,Ms⟩
 replace C6:=K C6
 replace ye:=K ye
 have Rv:=ye.size;have yd:Hid (Below C w3 dN):=CO.trans ye;have TZ:Hid (Calls Tryz.prog 57 #[.pointer (some ⟨bl,0,none⟩)] dN fun e B=>(∃T,e = .returned (.agg (T.cells (kg nd G)))∧iB B.heap.size B T (kg nd G)∧yo dN.heap.size T)∧V dN B):=aeS C Y dN bl E C n ni S G nZ nd [] YH C6 (L9.to xy yd) (GS.to (yd.mono uu)) (by omega);have pd:Hid (∀j,dN.cell? ⟨rs,j,none⟩=(#[.int .i64 0,.slice none 0 0,.slice none 0 0,.slice none 0 0]:Array Value)[j]?):=fun j=>(yd.cell (p:=⟨rs,j,none⟩) NU).trans (E1 j)
 have zQ:Hid (∀j,dN.frozen? ⟨rs,j,none⟩=false):=fun j=>(yd.frozen (p:=⟨rs,j,none⟩) NU).trans (E4 j)
 have ot:Hid (V w dN):=ua.trans (yd.mono (by omega));have md:rs<dN.heap.size:=by omega
 clear ub Ms C6 ye CO Pc yd E1 E4 zZ h5 zY lx ua gq;go_wp2_with fail
 go_at_call 57;refine TZ.mono ?_;rintro e g0 ⟨⟨T,rfl,Nm,mL⟩,nn⟩;have S1:=K Nm;have w4:=K nn;have NX:=nn.size;have mz:=(nn.cell (p:=⟨rs,0,none⟩) md).trans (pd 0);have io:=(nn.cell (p:=⟨rs,1,none⟩) md).trans (pd 1);have jM:=(nn.cell (p:=⟨rs,2,none⟩) md).trans (pd 2);have lZ:=(nn.cell (p:=⟨rs,3,none⟩) md).trans (pd 3);have pl:=(nn.frozen (p:=⟨rs,0,none⟩) md).trans (zQ 0);have sM:=(nn.frozen (p:=⟨rs,1,none⟩) md).trans (zQ 1);have oU:=(nn.frozen (p:=⟨rs,2,none⟩) md).trans (zQ 2);have yw:=(nn.frozen (p:=⟨rs,3,none⟩) md).trans (zQ 3);simp at mz io jM lZ
 change Hid _ at mL
 clear Nm nn;unfold jm.cells;generalize HW:kg nd G=H at *
 change Hid _ at HW
 go_wp2;obtain⟨oK,iA,jW,l0⟩:=Sk mz io jM lZ (.int .i64 H.ins) (.slice T.a1 H.lats.length T.c1) (.slice T.a2 H.ands.length T.c2) (.slice T.a3 H.outs.length T.c3);have w5:=K (OJ g0 rs (.int .i64 H.ins) (.slice T.a1 H.lats.length T.c1) (.slice T.a2 H.ands.length T.c2) (.slice T.a3 H.outs.length T.c3));generalize World.setCell _ (⟨rs,3,none⟩:Addr) _=gH at w5 oK iA jW l0 ⊢;clear mz io jM lZ pl sM oU yw;refine bodyPost_ret (v:= .agg #[.int .i64 H.ins,.slice T.a1 H.lats.length T.c1,.slice T.a2 H.ands.length T.c2,.slice T.a3 H.outs.length T.c3]) (by simp[results,Tryz.results28,go_sem, *]) rfl ?_;refine⟨⟨nd,T,Ta.out,?_,?_,?_⟩,?_⟩
 ·rw[HW.out];try rfl
 ·rw[HW.out];exact S1.set mL md w5
 ·have:=ot.size
  exact⟨fun b o e=>bL this (mL.1 b o e),fun b o e=>bL this (mL.2.1 b o e),fun b o e=>bL this (mL.2.2 b o e)⟩
 ·exact(ot.trans (w4.mono ot.size)).trans (jB w5 (by have:=ot.size;omega) (fun k X=>by have:=Option.some.inj X;omega))
theorem alC (mH:Nat->Prop) (Y:Nat) (w:World) (E:Nat) (S:jm) (G:eq) (ni n:Nat) (hF:lc G ni n) (gW:o9 w E S G) (aO:iB Y w S G) (aM:Y<=w.heap.size) (uv:HA G ni mH) (Ng:∀v,v<1+ni+0->mH v) :
  Calls Tryz.prog 28 #[.pointer (some ⟨E,0,none⟩),.bool false] w fun e B=>(∃nd T,GN G ni n mH nd∧e = .returned (.agg (T.cells (kg nd G)))∧iB B.heap.size B T (kg nd G)∧yo w.heap.size T)∧V w B:=by
 change Hid _ at uv Ng
 have BL:Hid (∀B,V w B->Calls Tryz.prog 29 #[.pointer (some ⟨E,0,none⟩)] B fun e bs=>e = .returned (.int .i64 (n:Int))∧∃k,bs=B.drewN k):=fun B aV=>by
  have:=SG B E S G (gW.to gW.lt aV) (by rw[hF.ins];omega) (by have:=hF.first;have:=hF.le;have:=hF.all;rw[hF.ins];omega) aO.ll aO.la
  rw[show G.vars=(n:Int) by unfold eq.vars eq.first;rw[hF.ins];have:=hF.first;have:=hF.all;omega] at this;exact this
 obtain⟨eE,ek,i1,Is,f0⟩:=IB;have ef:=hF.first;have iL:=hF.all;have qT:=hF.le;have KB:=hF.ll;have h0:=hF.lo;obtain⟨first,qr⟩:=cf (jC G);have CU:=K qr;rw[<-qr] at ef iL;have Ar:1+ni+G.lats.length<=first:=by omega
 have adg:first<=1+ni+G.lats.length:=by omega
 have vk:=K hF.ins;have nZ:=K hF;have mE:=K gW;have gg:=K aO;have lh:=gW.lt
 change Hid _ at ek i1 Is f0
 clear hF qr gW aO ef;have ke:eE.bytes*n<=281474976710656:=by rw[f0.out];omega
 have jc:n<=maxLen:=by simp only[maxLen];omega
 go_enter Tryz.func28,Tryz.ntmps28
 go_upto_region 1 with fail
 generalize oX:World.alloc w _=az;obtain⟨rs,k0⟩:=cf (w.heap.size);have ir:Hid (V w az):=by rw[<-oX];exact(ax _ _).alloc (aL _) _
 have td:Hid (az.heap.size=w.heap.size+1):=by show _=_;rw[<-oX];simp
 have xc:Hid (∀j,az.cell? ⟨rs,j,none⟩=(#[.int .i64 0,.slice none 0 0,.slice none 0 0,.slice none 0 0]:Array Value)[j]?):=by
  rw[<-oX,k0];intro j;exact ja rfl
 have xd:Hid (∀j,az.frozen? ⟨rs,j,none⟩=false):=by
  rw[<-oX,k0];intro j;exact World.frozen?_alloc_at _ _ _ _ rfl
 rw[<-k0];have qw:w.heap.size<=rs:=by omega
 have aec:rs<=w.heap.size:=by omega
 clear oX k0;go_wp2_with fail
 go_at_call 29;refine(BL _ ir).mono ?_;rintro e w1 ⟨rfl,UB,bT⟩;have bD:Hid (V az w1):=by rw[bT];exact Below.drewN (ax _ _) _
 have zl:az.heap.size<=w1.heap.size:=bD.size;have Wq:w1.heap.size<=az.heap.size:=by rw[bT];exact aL _
 clear bT;have tok:True:=trivial;go_upto_region 2 with (have _t:=tok;at_make;(refine wpList_make_full _ rfl (.tmp 14) (.tmp 14) 82 rfl w1.heap.size 4 eE _ 1 Tryz.underlying82 ek i1 Is .i64 .i64 (n:Int) (n:Int) n rfl rfl rfl rfl ke jc (aL _) ?_;intro w2 gX ij;have ud:=K gX;have y1:=K ij;clear tok gX ij))
 obtain⟨C,HV⟩:=cf (w1.heap.size);have BA:Hid (w2.ownsRow C 4 1 (.slice (some ⟨C,0,none⟩) n n) n ((List.replicate n false).map gi)):=by
  have:=ud.out
  rw[Xh,<-HV] at this;exact this
 rw[<-HV];generalize vv:World.alloc w2 _=w3;obtain⟨bl,DL⟩:=cf (w2.heap.size);have go:Hid (V w2 w3):=by rw[<-vv];exact(ax _ _).alloc (aL _) _
 have CN:Hid (V w1 w3):=(tw y1).trans (go.mono y1.size);have At:=(BA.lt C rfl).2;have em:w3.heap.size=w2.heap.size+1:=by rw[<-vv];simp
 have pe:Hid (∀j,w3.cell? ⟨bl,j,none⟩=(#[.pointer (some ⟨E,0,none⟩),.slice (some ⟨C,0,none⟩) n n,.slice none 0 0]:Array Value)[j]?):=by
  rw[<-vv,DL];intro j;exact ja rfl
 have Mw:Hid (∀j,w3.frozen? ⟨bl,j,none⟩=false):=by
  rw[<-vv,DL];intro j;exact World.frozen?_alloc_at _ _ _ _ rfl
 rw[<-DL];have anm:C<bl:=by omega
 have Wr:bl<w3.heap.size:=by omega
 have Va:C<=w3.heap.size:=by omega
 have NU:rs<C:=by have:=td.out;omega
 have uu:Y<=C:=by omega
 have xy:E<C:=by omega
 have hO:Hid (jP C w3 bl E C n (List.replicate n false,[]) (.slice none 0 0)) :=
  ⟨by simpa using pe 0,by simpa using pe 1,by simpa using pe 2,mx BA go,k8 _ _ _ _,Mw.out,by omega,Wr,by omega,by simp[Value.ownBlock],by simp[Value.ownBlock]⟩
 have E1:Hid (∀j,w3.cell? ⟨rs,j,none⟩=(#[.int .i64 0,.slice none 0 0,.slice none 0 0,.slice none 0 0]:Array Value)[j]?):=fun j=>(CN.cell (p:=⟨rs,j,none⟩) (by show rs<_;omega)).trans ((bD.cell (p:=⟨rs,j,none⟩) (by show rs<_;have:=td.out;omega)).trans (xc j))
 have E4:Hid (∀j,w3.frozen? ⟨rs,j,none⟩=false):=fun j=>(CN.frozen (p:=⟨rs,j,none⟩) (by show rs<_;omega)).trans ((bD.frozen (p:=⟨rs,j,none⟩) (by show rs<_;have:=td.out;omega)).trans (xd j))
 have ua:Hid (V w w3):=(ir.trans (bD.mono ir.size)).trans (CN.mono (by have:=ir.size;omega));have gq:w3.cell? ⟨E,0,none⟩=some (.int .i64 (ni:Int)):=(ua.cell (p:=⟨E,0,none⟩) lh).trans (by rw[<-vk.out];exact mE.c0);clear vv DL HV ud y1 BA go CN pe Mw xc xd ir bD ek i1 Is f0 ke jc td BL zl Wq At em;have HP:=bF ((1:Int)+(ni:Int))
 go_upto_block 0 with fail
 refine ab9 w3 C bl E C n ni _ hO Va qT (by omega) _ _ (K ?_);intro f1 GA LB LC LD LF Jg Jh LG LH hcut;obtain⟨C5,jF⟩:=hcut
 replace C5:=K C5
 replace jF:=K jF
 have Ir:=jF.size;clear hO;have GU:=K jF;have w6:Hid (lv G ni n mH [] (qO ni 0 (n - (1+ni)))):=by
  have:=lv.begun nZ 0 (cE _) Ng.out
  exact this
 have GS:Hid (iB Y w3 S G):=gg.to (ua.mono aM);have h7:f1.cell? ⟨E,3,none⟩=some (.slice S.a3 G.outs.length S.c3):=(jF.cell (p:=⟨E,3,none⟩) xy).trans ((ua.cell (p:=⟨E,3,none⟩) lh).trans mE.c3)
 go_upto_block 4 with fail
 refine aca f1 G mH C Y bl E C n ni S.a3 S.c3 _ _ C5 w6 uv (by omega) qT (GS.to (jF.mono uu)).o uu (by omega) nZ.outs _ _ (K ?_);intro aH OV wJ wK uZ va vb tJ tK hcut;obtain⟨⟨rS,O4,zZ,h5,zY⟩,lx⟩:=hcut
 replace zZ:=K zZ
 replace h5:=K h5
 replace zY:=K zY
 replace lx:=K lx
 have FZ:=lx.size;have CO:Hid (Below C w3 aH):=jF.trans lx;have L9:Hid (o9 w3 E S G):=mE.to lh ua;clear C5 w6 h7
 go_upto_block 6 with fail
 refine acb aH G mH S C Y bl E C n ni nZ rS O4 zZ h5 uv zY (by omega) qT (L9.to xy CO) xy (GS.to (CO.mono uu)) uu _ _ (K ?_);intro dN LA OT tL tM tN tO tP tQ tR tS tT tU tV tW tX tY tZ t0 t1 t2 t3 t4 hcut;obtain⟨⟨nd,YH,C6,ub,Ms⟩,ye⟩:=hcut;have Ta:Hid (GN G ni n mH nd):=⟨ub,Ms⟩
 replace C6:=K C6
 replace ye:=K ye
 have Rv:=ye.size;have yd:Hid (Below C w3 dN):=CO.trans ye;have TZ:Hid (Calls Tryz.prog 57 #[.pointer (some ⟨bl,0,none⟩)] dN fun e B=>(∃T,e = .returned (.agg (T.cells (kg nd G)))∧iB B.heap.size B T (kg nd G)∧yo dN.heap.size T)∧V dN B):=aeS C Y dN bl E C n ni S G nZ nd [] YH C6 (L9.to xy yd) (GS.to (yd.mono uu)) (by omega);have pd:Hid (∀j,dN.cell? ⟨rs,j,none⟩=(#[.int .i64 0,.slice none 0 0,.slice none 0 0,.slice none 0 0]:Array Value)[j]?):=fun j=>(yd.cell (p:=⟨rs,j,none⟩) NU).trans (E1 j)
 have zQ:Hid (∀j,dN.frozen? ⟨rs,j,none⟩=false):=fun j=>(yd.frozen (p:=⟨rs,j,none⟩) NU).trans (E4 j)
 have ot:Hid (V w dN):=ua.trans (yd.mono (by omega));have md:rs<dN.heap.size:=by omega
 clear ub Ms C6 ye CO yd E1 E4 zZ h5 zY lx ua gq;go_wp2_with fail
 go_at_call 57;refine TZ.mono ?_;rintro e g0 ⟨⟨T,rfl,Nm,mL⟩,nn⟩;have S1:=K Nm;have w4:=K nn;have NX:=nn.size;have mz:=(nn.cell (p:=⟨rs,0,none⟩) md).trans (pd 0);have io:=(nn.cell (p:=⟨rs,1,none⟩) md).trans (pd 1);have jM:=(nn.cell (p:=⟨rs,2,none⟩) md).trans (pd 2);have lZ:=(nn.cell (p:=⟨rs,3,none⟩) md).trans (pd 3);have pl:=(nn.frozen (p:=⟨rs,0,none⟩) md).trans (zQ 0);have sM:=(nn.frozen (p:=⟨rs,1,none⟩) md).trans (zQ 1);have oU:=(nn.frozen (p:=⟨rs,2,none⟩) md).trans (zQ 2);have yw:=(nn.frozen (p:=⟨rs,3,none⟩) md).trans (zQ 3);simp at mz io jM lZ
 change Hid _ at mL
 clear Nm nn;unfold jm.cells;generalize HW:kg nd G=H at *
 change Hid _ at HW
 go_wp2;obtain⟨oK,iA,jW,l0⟩:=Sk mz io jM lZ (.int .i64 H.ins) (.slice T.a1 H.lats.length T.c1) (.slice T.a2 H.ands.length T.c2) (.slice T.a3 H.outs.length T.c3);have w5:=K (OJ g0 rs (.int .i64 H.ins) (.slice T.a1 H.lats.length T.c1) (.slice T.a2 H.ands.length T.c2) (.slice T.a3 H.outs.length T.c3));generalize World.setCell _ (⟨rs,3,none⟩:Addr) _=gH at w5 oK iA jW l0 ⊢;clear mz io jM lZ pl sM oU yw;refine bodyPost_ret (v:= .agg #[.int .i64 H.ins,.slice T.a1 H.lats.length T.c1,.slice T.a2 H.ands.length T.c2,.slice T.a3 H.outs.length T.c3]) (by simp[results,Tryz.results28,go_sem, *]) rfl ?_;refine⟨⟨nd,T,Ta.out,?_,?_,?_⟩,?_⟩
 ·rw[HW.out];try rfl
 ·rw[HW.out];exact S1.set mL md w5
 ·have:=ot.size
  exact⟨fun b o e=>bL this (mL.1 b o e),fun b o e=>bL this (mL.2.1 b o e),fun b o e=>bL this (mL.2.2 b o e)⟩
 ·exact(ot.trans (w4.mono ot.size)).trans (jB w5 (by have:=ot.size;omega) (fun k X=>by have:=Option.some.inj X;omega))
theorem awv {P:Program} (w:World) {jL:Array Oper} {oH:List Oper} {o:Oper} {a:Act} {Q:Exit->Act->World->Prop} (gF:o.guard=none) (s x:Operand) (t:TypeId)
  (aY:o.op = .call {callee:= .builtin .append,args:=#[s,x],argTypes:=#[t,t]})
  (jI:Nat) (e:TypeId) (i:TypeInfo) (z:Value) (bytes:Nat) (eg:P.underlying t=some (.slice e)) (hi:P.info? e=some i) (ao:i.zero=some z)
  (KO:i.size=1) (jJ:i.bytes=bytes) (WQ:z.cells.size=1)
  (v:Value) (n:Nat) (xs:List Value) (hs:a.eval s=v) (bc:w.ownsRow jI e 1 v n xs)
  (GI:Value) (l:List Bool) (J:a.eval x=GI) (D:iJ w GI l)
  (Do:n+l.length<=maxLen) (Dy:(n+l.length)*bytes<=140737488355328) (Vz:jI<=w.heap.size)
  (h:∀tF B,B.ownsRow jI e 1 tF (n+l.length) (xs++l.map gi)->w.grownBy B v.ownBlock->wpList P jL Q oH (a.put o.dst tF) B) :
  wpList P jL Q (o::oH) a w:=by
 rcases D with ⟨rfl,rfl⟩ | ⟨b,off,c,rfl,aB,ar⟩
 ·refine wpList_plain gF fun aj W=>?_
  have ak:=run_append_owned_none (P:=P) w jI t o.type e i 1 eg hi v n xs bc;unfold Oper.wp execOp;simp only[aY,resolve,invoke,builtin,Sem.run_bind,Sem.run_pure,Result.andThen_ok,List.map_toArray,List.map_cons,List.map_nil,hs,J,ak];exact W _ _ (h v w (by simpa using bc) (World.grownBy.refl _ _))
 ·refine wpList_append_own_at w gF s x t aY jI e i z 1 bytes eg hi ao KO jJ WQ (by decide) v n xs hs bc ⟨b,off,none⟩ l.length c (l.map gi) J (by simp) ?_ ?_ Do Dy Vz ?_
  ·intro j u bb;rw[fT] at bb;cases hl:l[j]? with
   | none=>rw[hl] at bb;cases bb
   | some y =>
    rw[hl] at bb;have e:Value.bool y=u:=by simpa[gi] using bb
    subst e;have aS:(⟨b,off,none⟩:Addr).add j=⟨b,off+j,none⟩:=by unfold Addr.add;split <;> simp_all
    rw[aS];exact ar j y hl
  ·intro u bb;obtain⟨y,_,rfl⟩:=i6.1 bb
   rfl
  ·intro tF B F O _ _;exact h tF B F O
theorem am8 {aC wr al:World} (h:V aC wr) {e:TypeId} {size n:Nat} {v:Value} {xs:List Value} (a6:wr.ownsRow aC.heap.size e size v n xs) (af:wr.grownBy al v.ownBlock):V aC al :=
 h.grown af h.size (fun k X=>(a6.lt k X).1)
def LQ (G:eq):Prop:=∀(k:Nat) (d:Z),G.ands[k]?=some d->(0<=d.x∧d.x<2*(1+G.ins.toNat+G.lats.length+k:Nat))∧(0<=d.y∧d.y<2*(1+G.ins.toNat+G.lats.length+k:Nat))
theorem alU (Y:Nat) (w:World) (S:jm) (G:eq) (h:iB Y w S G) (aM:Y<=w.heap.size) (hs:G.small) (ad:LQ G) (row dB:List Bool) (ik:dB.length=G.lats.length) (gP:Option Addr) (fY:Nat) (nR:cm Y w gP 1 (row.map Ac)) (uR:Value) (yH:iJ w uR dB) :
  Calls Tryz.prog 63 #[.agg (S.cells G),.slice gP row.length fY,uR] w fun e B=>∃v,e = .returned v∧B.ownsRow w.heap.size 4 1 v (1+G.ins.toNat+G.lats.length+G.ands.length) ((l7 G row dB).map gi)∧V w B:=by
 obtain⟨kT,bY,bK,h7,lS⟩:=hs;have bO:∃n:Nat,G.ins=(n:Int)∧n<=60000:=⟨G.ins.toNat,by omega,by omega⟩
 obtain⟨ni,Rj,pt⟩:=bO;have Tv:Hid (G.ins.toNat=ni):=by show _=_;omega
 have ax4:G.ands.length<=60000:=by unfold eq.vars eq.first at lS;omega
 obtain⟨gI,bR⟩:∃gI,Hid (l7 G row dB=gI):=⟨_,rfl⟩
 rw[bR.out,Tv.out];unfold LQ at ad;rw[Tv.out] at ad;have eC:=K ik;unfold jm.cells
 change Hid _ at ad Rj
 clear kT bY h7 lS;obtain⟨eE,ek,i1,jU,f0⟩:=IB
 change Hid _ at ek i1 jU f0
 go_enter Tryz.func63,Tryz.ntmps63
 go_upto_region 1 with fail
 generalize av:World.alloc w _=I;have aD:Hid (V w I):=by rw[<-av];exact(ax _ _).alloc (aL _) _
 have a8:w.heap.size<I.heap.size:=by rw[<-av];simp
 have iC:Hid (o9 I w.heap.size S G):=by
  rw[<-av];exact⟨by simp,by simp,by simp,by simp,by simp⟩
 have hU:Hid (iB Y I S G):=h.to (aD.mono aM);have gE:Y<=I.heap.size:=bL aM aD.size;clear av h;have ajs:=K (nR.to (aD.mono aM));have PD:=K (yH.to aD);clear nR yH;go_wp2_with fail
 have w9:Hid ((I.alloc (.cells #[.bool false] 4)).ownsRow I.heap.size 4 1 (.slice (some ⟨I.heap.size,0,none⟩) 1 1) 1 (([false]++sV 0 row).map gi)):=World.ownsRow_lit I #[.bool false] 1 (aL _) (by decide) rfl;go_loopw [7,8] (fun v aq B=>∃(k:Nat),k<=ni∧aq = .int .i64 k∧Hid (B.ownsRow I.heap.size 4 1 v (1+k) (([false]++sV k row).map gi))∧Hid (V I B)) (fun _ aq _=>ni - (intOf aq).toNat)
 case atStart=>exact⟨0,cE _,rfl,w9.out,(ax _ _).alloc (aL _) _⟩
 case round =>
  obtain⟨k,X,rfl,a6,au⟩:=hrel;have atN:=(au.cell (p:=⟨w.heap.size,0,none⟩) a8).trans iC.c0;rw[Rj.out] at atN;by_cases aB:k<ni
  ·have fa:(k:Int)<(ni:Int):=by omega
   have bM:=bF ((k:Int)+1);have cn:1+k+1<=maxLen:=by simp only[maxLen];omega
   have cq:(1+k+1)*1<=140737488355328:=by omega
   have gY:=au.size;have bW:Hid (([false]++sV (k+1) row).map gi=([false]++sV k row).map gi++[.bool (row[k]?.getD false)]):=by
    show _=_;rw[apR,<-List.append_assoc,g1];rfl
   by_cases bO:k<row.length
   ·obtain⟨x,J⟩:=bS bO;obtain⟨bG,ck,bQ,gK,ru⟩:=Sh ajs J;have axD:=(au.cell (p:=⟨bG,ck+k,none⟩) (bk gK gE)).trans ru;rw[J] at bW;simp only[Option.getD_some] at bW;have VS:(k:Int)<(row.length:Int):=by omega
    subst bQ;have cJ:I.heap.size<=(wr.alloc (.cells #[.bool x] 4)).heap.size:=by simp;omega
    clear J ru gK;have tok:True:=trivial;go_wp2_with (have _t:=tok;at_builtin;(refine wpList_append_lies _ rfl (.tmp 17) (.tmp 28) 82 rfl I.heap.size 4 eE _ 1 1 Tryz.underlying82 ek i1 jU f0 rfl (by decide) u7 (1+k) _ rfl (a6.alloc _) ⟨wr.heap.size,0,none⟩ 1 1 [.bool x] rfl rfl (i5 (h8 _ _)) (by simp[Value.oneCell']) (by decide) cn cq cJ _ rfl ?_;intro g cap al bc br kX cj;clear tok))
    have i8:Hid (al.ownsRow I.heap.size 4 1 (.slice (some ⟨g,0,none⟩) (1+k+1) cap) (1+(k+1)) (([false]++sV (k+1) row).map gi)):=by
     show World.ownsRow _ _ _ _ _ _ _;rw[bW.out];exact bc
    have cV:Hid (V I al):=us au a6 br;clear bc br kX cj cn cq cJ a6 au bW;go_wp2;go_roundw
    case measure=>simp[intOf];omega
    exact⟨k+1,by omega,by simp,i8.out,cV⟩
   ·have VS:¬(k:Int)<(row.length:Int):=by omega
    rw[oN (by omega)] at bW;simp only[Option.getD_none] at bW;have cJ:I.heap.size<=(wr.alloc (.cells #[.bool false] 4)).heap.size:=by simp;omega
    have tok:True:=trivial;go_wp2_with (have _t:=tok;at_builtin;(refine wpList_append_lies _ rfl (.tmp 17) (.tmp 28) 82 rfl I.heap.size 4 eE _ 1 1 Tryz.underlying82 ek i1 jU f0 rfl (by decide) u7 (1+k) _ rfl (a6.alloc _) ⟨wr.heap.size,0,none⟩ 1 1 [.bool false] rfl rfl (i5 (h8 _ _)) (by simp[Value.oneCell']) (by decide) cn cq cJ _ rfl ?_;intro g cap al bc br kX cj;clear tok))
    have i8:Hid (al.ownsRow I.heap.size 4 1 (.slice (some ⟨g,0,none⟩) (1+k+1) cap) (1+(k+1)) (([false]++sV (k+1) row).map gi)):=by
     show World.ownsRow _ _ _ _ _ _ _;rw[bW.out];exact bc
    have cV:Hid (V I al):=us au a6 br;clear bc br kX cj cn cq cJ a6 au bW;go_wp2;go_roundw
    case measure=>simp[intOf];omega
    exact⟨k+1,by omega,by simp,i8.out,cV⟩
  ·have cQ:¬((k:Int)<(ni:Int)):=by omega
   obtain rfl:k=ni:=by omega
   have cn:1+k+dB.length<=maxLen:=by simp only[maxLen];omega
   have cq:(1+k+dB.length)*1<=140737488355328:=by omega
   have tok:True:=trivial;go_wp2_with (have _t:=tok;at_builtin;(refine awv _ rfl (.tmp 30) (.tmp 31) 82 rfl I.heap.size 4 eE _ 1 Tryz.underlying82 ek i1 jU f0 rfl u7 (1+k) _ rfl a6 uR dB rfl (PD.to au) cn cq au.size ?_;intro GA aH bc br;have lx:=K (am8 au a6 br);have hM:=K bc;clear tok bc br))
   have ir:∃b0,Hid ([false]++sV k row++dB=b0):=⟨_,rfl⟩
   obtain⟨b0,ir⟩:=ir;have hF:∃hZ,Hid (1+k+dB.length=hZ)∧hZ<=70000:=⟨_,rfl,by omega⟩
   obtain⟨hZ,ch,hF⟩:=hF;have Mn:Hid (aH.ownsRow I.heap.size 4 1 GA (hZ+0) ((iS b0 (G.ands.take 0)).map gi)):=by
    have:=hM.out
    rw[ch.out,<-g1,ir.out] at this;exact this
   have km:Hid (iS b0 G.ands=gI):=by
    show _=_;rw[<-bR.out,<-ir.out];unfold l7;rw[Tv.out]
   have y0:Hid (1+k+G.lats.length=hZ):=by show _=_;rw[<-eC.out];exact ch
   have nc:Hid (∀(j:Nat) (d:Z),G.ands[j]?=some d->(0<=d.x∧d.x<2*((hZ+j:Nat):Int))∧(0<=d.y∧d.y<2*((hZ+j:Nat):Int))):=by
    intro j d U
    have:=ad j d U
    rwa [y0.out] at this
   clear a6 hM au ad cn cq bR;go_wp2_with fail
   go_loopw [7,9] (fun v aq B=>∃(j:Nat),j<=G.ands.length∧aq = .int .i64 j∧Hid (B.ownsRow I.heap.size 4 1 v (hZ+j) ((iS b0 (G.ands.take j)).map gi))∧Hid (V I B)) (fun _ aq _=>G.ands.length - (intOf aq).toNat)
   case atStart=>exact⟨0,cE _,rfl,Mn.out,lx⟩
   case round =>
    obtain⟨j,aT,rfl,a6,au⟩:=hrel;have K8:=(au.cell (p:=⟨w.heap.size,2,none⟩) a8).trans iC.c2;by_cases aB:j<G.ands.length
    ·obtain⟨d,U⟩:=bS aB;obtain⟨bG,ck,bQ,gK,cx⟩:=hU.a.el U;have nQ:bG<I.heap.size:=bk gK gE;have c0:wr.cell? ⟨bG,ck+j*2,none⟩=_:=(au.cell (p:=⟨bG,ck+j*2,none⟩) nQ).trans (cx 0 _ rfl);have c1:=(au.cell (p:=⟨bG,ck+j*2+1,none⟩) nQ).trans (cx 1 _ rfl);rw[bQ] at K8;obtain⟨J,aF⟩:=nc j d U;obtain⟨am,uh⟩:∃am,Hid (iS b0 (G.ands.take j)=am):=⟨_,rfl⟩
     have bW:Hid ((iS b0 (G.ands.take (j+1))).map gi=am.map gi++[.bool (gw am d.x&&gw am d.y)]):=by
      show _=_;rw[gM _ j d U,MP,uh.out,g1];rfl
     have l9:=a6.out;rw[uh.out] at l9;obtain⟨oF,fX,gJ,bb,AB⟩:=s0 (g:=gi) l9;subst bb;have J2:∀l,0<=l∧l<2*((hZ+j:Nat):Int)->Calls Tryz.prog 64 #[.slice fX (hZ+j) gJ,.int .i64 l] wr fun e B=>e = .returned (.bool (gw am l))∧B=wr:=by
      intro l hl;rw[oF] at hl ⊢;exact Xg wr fX gJ am AB (by simp only[cd];omega) l hl
     have BJ:=K (J2 d.x J);have oy:=K (J2 d.y aF);have qi:=K l9;generalize gw am d.x=sG at *;generalize gw am d.y=abK at *;obtain⟨x,y⟩:=d;simp only at *;have fa:(j:Int)<(G.ands.length:Int):=by omega
     have bM:=bF ((j:Int)+1);have cn:hZ+j+1<=maxLen:=by simp only[maxLen];omega
     have cq:(hZ+j+1)*1<=140737488355328:=by omega
     have gY:=au.size;clear U cx bQ l9 AB J2 J aF a6 oF;cases sG
     ·have cJ:I.heap.size<=(wr.alloc (.cells #[.bool false] 4)).heap.size:=by simp;omega
      go_wp2_with fail
      go_at_call 64;refine BJ.mono ?_;rintro e w2 ⟨rfl,rfl⟩;have tok:True:=trivial;go_wp2_with (have _t:=tok;at_builtin;(refine wpList_append_lies _ rfl (.tmp 40) (.tmp 59) 82 rfl I.heap.size 4 eE _ 1 1 Tryz.underlying82 ek i1 jU f0 rfl (by decide) (.slice fX (hZ+j) gJ) (hZ+j) _ rfl (qi.alloc _) ⟨w2.heap.size,0,none⟩ 1 1 [.bool false] rfl rfl (i5 (h8 _ _)) (by simp[Value.oneCell']) (by decide) cn cq cJ _ rfl ?_;intro g cap al bc br kX cj;clear tok))
      have i8:Hid (al.ownsRow I.heap.size 4 1 (.slice (some ⟨g,0,none⟩) (hZ+j+1) cap) (hZ+(j+1)) ((iS b0 (G.ands.take (j+1))).map gi)):=by
       show World.ownsRow _ _ _ _ _ _ _;rw[bW.out];exact bc
      have cV:Hid (V I al):=us au qi br;clear bc br kX cj cn cq cJ qi au bW BJ oy;go_wp2;go_roundw
      case measure=>simp[intOf];omega
      exact⟨j+1,by omega,by simp,i8.out,cV⟩
     ·have cJ:I.heap.size<=(wr.alloc (.cells #[.bool abK] 4)).heap.size:=by simp;omega
      go_wp2_with fail
      go_at_call 64;refine BJ.mono ?_;rintro e w2 ⟨rfl,rfl⟩;go_wp2_with fail
      go_at_call 64;refine oy.mono ?_;rintro e w3 ⟨rfl,rfl⟩;have tok:True:=trivial;go_wp2_with (have _t:=tok;at_builtin;(refine wpList_append_lies _ rfl (.tmp 40) (.tmp 59) 82 rfl I.heap.size 4 eE _ 1 1 Tryz.underlying82 ek i1 jU f0 rfl (by decide) (.slice fX (hZ+j) gJ) (hZ+j) _ rfl (qi.alloc _) ⟨w3.heap.size,0,none⟩ 1 1 [.bool abK] rfl rfl (i5 (h8 _ _)) (by simp[Value.oneCell']) (by decide) cn cq cJ _ rfl ?_;intro g cap al bc br kX cj;clear tok))
      have i8:Hid (al.ownsRow I.heap.size 4 1 (.slice (some ⟨g,0,none⟩) (hZ+j+1) cap) (hZ+(j+1)) ((iS b0 (G.ands.take (j+1))).map gi)):=by
       show World.ownsRow _ _ _ _ _ _ _;rw[bW.out];exact bc
      have cV:Hid (V I al):=us au qi br;clear bc br kX cj cn cq cJ qi au bW BJ oy;go_wp2;go_roundw
      case measure=>simp[intOf];omega
      exact⟨j+1,by omega,by simp,i8.out,cV⟩
    ·have cQ:¬((j:Int)<(G.ands.length:Int)):=by omega
     have hM:Hid (wr.ownsRow I.heap.size 4 1 u7 (1+k+G.lats.length+G.ands.length) (gI.map gi)):=by
      have:=a6.out
      rw[fQ (by omega),show j=G.ands.length by omega,km.out,<-y0.out] at this;exact this
     clear a6;go_wp2;go_ret
     exact⟨_,rfl,xN hM aD.size,aD.trans (au.mono aD.size)⟩
end Go.Proofs.YtcbcenfjigcfkaaGreatDoor
