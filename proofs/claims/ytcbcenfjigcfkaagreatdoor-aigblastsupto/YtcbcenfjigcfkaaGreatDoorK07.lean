import Derived.Test.YtcbcenfjigcfkaaGreatDoorK06
set_option maxRecDepth 100000
set_option maxHeartbeats 40000000
namespace Go.Proofs.YtcbcenfjigcfkaaGreatDoor
open Go.RowKit
theorem aqs {row:List Int} {m:Nat} (ae:m=row.length) (aI:0<m):row[m - 1]?=some (row.getLastD 0):=by
 rw[ae,<-List.getLast?_eq_getElem?];cases row with
 | nil=>simp at ae;omega
 | cons a r=>rw[List.getLast?_cons];cases r <;> rfl
theorem Qq {C:Nat} {az w2 w3:World} {E M first:Nat} {f:List Z->Int×Int->List Z×Int} {hs:List Z} {row:List Int} {Ps:Nat->Prop} {g m c i:Nat} {p:Int×Int} (h:nG C az w2 E M first (f (eG f hs (iN row) i).1 p).1 Ps g m c ((eG f hs (iN row) i).2++row.drop i)) (aE:(iN row)[i]?=some p)
  (aw:w2.setCell ⟨g,i,none⟩ (.int .i64 (f (eG f hs (iN row) i).1 p).2)=w3):nG C az w3 E M first (eG f hs (iN row) (i+1)).1 Ps g m c ((eG f hs (iN row) (i+1)).2++row.drop (i+1)):=by
 have hi:=(cr.1 aE).1;have hl:=afL row
 have:=h.store i _ aw
 rw[aci _ _ _ _ (CB _ (by omega) _) (by omega)] at this;rw[Yb f aE];exact this
theorem UU (Aj:Nat) (sC:Nat->List Z->Int->Int->List Z×Int) {Xm:Nat} {SY:Bool->Bool->Bool} (Ia:∀(args:Array Value) (w:World),(callFunc Aj args).run Tryz.prog w = .ok (.enter Aj args) w) (aT:∀first,1<=first->E8 first (sC first) Xm SY) (tj:∀(C:Nat) (w:World) (E M first:Nat) (hs:List Z) (Ps:Nat->Prop),bZ C w E M first hs Ps->∀a b,bN first hs a->bN first hs b->Calls Tryz.prog Aj #[.pointer (some ⟨E,0,none⟩),.int .i64 a,.int .i64 b] w (pi C w E M first Ps (sC first hs a b) hz)) (C:Nat) (w:World) (E M first:Nat) (hs:List Z) (Ps:Nat->Prop) (h:bZ C w E M first hs Ps) (v:Value) (l:List Int) (no_:Int) (L:cv Ps w v l) (hl:bt first hs l) (cb:0<l.length) (ag:l.length<=65536) (w8:Hid (∀(hs:List Z) (l:List Int) (fuel:Nat),bI first hs->bt first hs l->l.length<=fuel+1->hs.length<=(sN (sC first) no_ fuel hs l).1.length)) :
  Calls Tryz.prog 94 #[v,.int .i64 no_,.func (.func Aj) #[.pointer (some ⟨E,0,none⟩)] #[]] w (pi C w E M first Ps (sN (sC first) no_ l.length hs l) hz):=by
 have ef:=h.len.2.1;have lN:Hid (∀bA (row:List Int),bI first bA->bt first bA row->bt first (o4 (sC first) bA row).1 (o4 (sC first) bA row).2∧bI first (o4 (sC first) bA row).1):=fun bA row kZ ad=>by
  have:=afN (aT first ef) bA row kZ ad
  exact⟨this.inl,this.gd.ok⟩
 obtain⟨f,ah⟩:=cf ((fun hs (p:Int×Int)=>sC first hs p.1 p.2));have eC:Hid (∀(bA:List Z) (row:List Int),bI first bA->bt first bA row->∀(k:Nat) (x y:Int),(iN row)[k]?=some (x,y)->(bN first (eG f bA (iN row) k).1 x∧bN first (eG f bA (iN row) k).1 y)∧(f (eG f bA (iN row) k).1 (x,y)).1.length<=(ix f bA (iN row)).1.length):=fun bA row kZ ad k x y X=>by
  rw[ah];exact(Lx (P:=fun hs (p:Int×Int)=>bN first hs p.1∧bN first hs p.2) (fun _ _ h aE=>⟨⟨_,(aT first ef _ _ _ h aE.1 aE.2).gd⟩,(aT first ef _ _ _ h aE.1 aE.2).inl⟩) (fun _ _ _ _ g p=>⟨g.inL p.1,g.inL p.2⟩) (iN row) bA kZ (fun a ae=>⟨ad _ (afM ae).1,ad _ (afM ae).2⟩) X).2
 have EN:Hid (∀(u:World) (bA:List Z) (x y:Int) (an:Nat->Prop),bZ C u E M first bA an->bN first bA x->bN first bA y->Calls Tryz.prog Aj #[.pointer (some ⟨E,0,none⟩),.int .i64 x,.int .i64 y] u (pi C u E M first an (f bA (x,y)) hz)):=fun u bA x y an rE J aF=>by rw[ah];exact tj C u E M first bA an rE x y J aF
 have He:Hid (∀bA (row:List Int),o4 (sC first) bA row=((ix f bA (iN row)).1,(ix f bA (iN row)).2++(if row.length%2=1 then [row.getLastD 0] else []))):=fun bA row=>by rw[ah];exact atF (sC first) bA row
 clear ah;have jq:=K L;have cc:=K h;obtain⟨gI,bR⟩:∃gI,Hid (gI=sN (sC first) no_ l.length hs l):=⟨_,rfl⟩
 rw[<-bR.out];obtain⟨b,o,c,rfl,ar,-,jt⟩:=L;have YX:=K (alF w b o c l cb (by omega) jt);obtain⟨n,bP⟩:∃n,Hid (n=l.length):=⟨_,rfl⟩
 have adS:((l.length:Int)==0)=false:=beq_eq_false_iff_ne.2 (by omega);rw[<-bP.out] at ag ar cb adS YX ⊢;have kJ:=K h.ok
 change Hid _ at hl
 clear h jt;go_enter Tryz.func94,Tryz.ntmps94
 go_wp2_with fail
 go_at_call 103;refine YX.mono ?_;rintro e w1 ⟨g,cap,rfl,bc,no⟩;have ch:=K (nG.start cc no bc);clear bc no;go_wp2_with fail
 go_loopw [7] (fun XM B=>∃(m fuel:Nat) (bA:List Z) (row:List Int),0<m∧m<=n∧XM = .slice (some ⟨g,0,none⟩) m cap∧Hid (m=row.length)∧Hid (nG C w B E M first bA Ps g m cap row)∧Hid (row.length<=fuel+1)∧Hid (bt first bA row∧bI first bA)∧Hid (gI=sN (sC first) no_ fuel bA row)) (fun XM _=>match XM with | .slice _ m _=>m | _=>0)
 case atStart=>exact⟨n,l.length,hs,l,cb,aL _,rfl,bP.out,ch.out,by show _<=_;omega,⟨hl,kJ⟩,bR⟩
 case round =>
  obtain⟨m,fuel,bA,row,vz,NJ,rfl,gT,bB,Zv,Jy,BE⟩:=hrel;by_cases aB:1<m
  ·have fa:(1:Int)<(m:Int):=by omega
   obtain⟨rB,Q1⟩:=cf (m / 2);have Qj:IntKind.i64.wrap (Int.tdiv (m:Int) 2)=(rB:Int):=by rw[Int.tdiv_eq_ediv_of_nonneg (by omega),mj _ (by omega) (by omega)];omega
   have axI:(m:Int) / 2=(rB:Int):=by omega
   have ayJ:=bB.cap;have lz:Hid (rB=(iN row).length):=by show _=_;rw[afL,<-gT.out,Q1]
   have ayT:rB<m:=by omega
   have ayU:2*rB<=m:=by omega
   have ayV:0<rB:=by omega
   obtain⟨Ak,-,adh,Ar,qr,DA⟩:=amQ (join:=sC first) (no_:=no_) (hs:=bA) (show 1<row.length by rw[<-gT.out];exact aB) Zv.out;have Hd:=K (lN bA row Jy.2 Jy.1);have uc:=K (w8 _ _ Ak Hd.2 Hd.1 Ar);have Hi:=K (BE.trans adh);rw[He.out] at Ar qr DA Hd uc Hi;have iY:=K (show _∧_∧_ from ⟨Ar,qr,DA⟩);clear adh Ar qr DA BE Zv;have axc:=K (show rB=m / 2 from Q1);by_cases Rl:m%2=1
   ·have amb:(IntKind.i64.wrap (Int.tmod (m:Int) 2)==1)=true:=by rw[Int.tmod_eq_emod_of_nonneg (by omega),mj _ (by omega) (by omega)];simp;omega
    have amc:(m:Int)%2=1:=by omega
    have NP:row.length%2=1:=by rw[<-gT.out];exact Rl
    rw[if_pos NP] at Hd iY uc Hi
    change Hid _ at Rl
    clear NP Q1;go_wp2_with fail
    go_loopw [23] (fun aq B=>∃(i:Nat),i<=rB∧aq = .int .i64 i∧Hid (nG C w B E M first (eG f bA (iN row) i).1 Ps g m cap ((eG f bA (iN row) i).2++row.drop i))) (fun aq _=>rB - (intOf aq).toNat)
    case atStart=>exact⟨0,cE _,rfl,bB⟩
    case round =>
     clear bB;obtain⟨i,hi,rfl,ly⟩:=hrel;by_cases qW:i<rB
     ·obtain⟨x,J⟩:=bS (l:=row) (k:=2*i) (by rw[<-gT.out];omega);obtain⟨y,aF⟩:=bS (l:=row) (k:=2*i+1) (by rw[<-gT.out];omega);have zX:=K (afK J aF);have pv:(eG f bA (iN row) i).2.length=i:=CB _ (by rw[<-lz.out];omega) _;have pg:Hid (((eG f bA (iN row) i).2++row.drop i)[2*i]?=some x∧((eG f bA (iN row) i).2++row.drop i)[2*i+1]?=some y):=by
       show _∧_;rw[lu (by omega),lu (by omega),pv,vh,vh,show i+(2*i - i)=2*i by omega,show i+(2*i+1 - i)=2*i+1 by omega];exact⟨J,aF⟩
      obtain⟨⟨nr,ek⟩,fG⟩:=eC bA row Jy.2 Jy.1 i x y zX;have nE:=K fun u (bb:V wr u)=>EN u _ x y (cK Ps g) (ly.gt.to bb) nr ek
      have CY:Hid ((f (eG f bA (iN row) i).1 (x,y)).1.length<=gI.1.length):=by show _<=_;rw[Hi.out];exact bL fG uc
      have aom:(i:Int)<(rB:Int):=by omega
      have bM:=bF ((i:Int)+1);obtain⟨lH,pp⟩:=cf (2*i);obtain⟨ev,eB⟩:=cf (2*i+1);have lg:IntKind.i64.wrap (2*(i:Int))=(lH:Int):=by rw[mj _ (by omega) (by omega)];omega
      have l8:IntKind.i64.wrap ((lH:Int)+1)=(ev:Int):=by rw[mj _ (by omega) (by omega)];omega
      have eX:(lH:Int)<(m:Int):=by omega
      have fH:(ev:Int)<(m:Int):=by omega
      have cy:(i:Int)<(m:Int):=by omega
      rw[<-eB,<-pp] at pg;have c2:=ly.cell pg.1;have c3:=ly.cell pg.2;clear fG nr ek pv J aF pp eB;go_upto_region 9 with fail
      refine nW ?_;refine ih (S:=(fun _=>True)) (by kernel_rfl) (by trivial) (fun ii=>?_);refine R 0 ?_;refine R 1 ?_;refine R 2 ?_;refine R 3 ?_;refine R 4 ?_;refine R 5 ?_;refine R 6 ?_;refine R 8 ?_;refine R 9 ?_;refine R 10 ?_;refine R 11 ?_;refine R 12 ?_;refine wpAnyH_ready (rs:=[7,13]) (by kernel_rfl) (by simp) ?_;refine j9 (o:=_) rfl (fun aj W=>?_) ?_
      ·(try simp only[bf,bg,bh]);go_simp
       skip
       refine aQ W trivial fun M8=>?_
       clear W aj;refine rd 13 fun aj W=>?_
       (try simp only[bf,bg,bh]);go_simp
       skip
       refine aQ W trivial fun Vd=>?_
       clear W aj;refine rd 14 fun aj W=>?_
       (try simp only[bf,bg,bh]);go_simp;refine(nE _ b7).mono ?_;rintro e w2 (⟨ae,rfl,af,bz⟩ | ⟨ae,⟨z,rfl,bq⟩,D⟩);rotate_left
       ·have bd:=K (show _∧_∧_ from ⟨bk ae CY,bq,ly.kp.below.trans (((Below.drew (ax _ _)).mono ly.gt.lo.2.2).trans D)⟩);clear ae bq D;unfold fI;go_wp2_with fail
        refine gN.panic (fun eP f7=>?_);have iO:Hid (eP.defers=[]):=f7;clear f7;go_wp2;exact⟨iO,.inr ⟨bd.1,⟨z,rfl,bd.2.1⟩,bd.2.2⟩⟩
       have lV:=(ly.gt.kp (Below.drew (ax _ _))).trans bz;have iX:=K (ly.call af lV);have n9:w2.cell? ⟨g,lH,none⟩=some (.int .i64 x)∧w2.cell? ⟨g,ev,none⟩=some (.int .i64 y):=⟨iX.cell pg.1,iX.cell pg.2⟩
       obtain⟨i4,hold⟩:∃i4,w2.cell? ⟨g,i,none⟩=some i4:=by
        obtain⟨kG,DE⟩:=bS (l:=(eG f bA (iN row) i).2++row.drop i) (k:=i) (by rw[iX.len];omega);exact⟨_,iX.cell DE⟩
       have h1:=iX.fz i;clear ae af bz lV;unfold hz;go_wp2_with fail
       refine aQ W trivial fun kz=>?_
       clear W aj;refine R 15 ?_;refine rd 16 fun aj W=>?_
       (try simp only[bf,bg,bh]);go_simp
       skip
       refine aQ W trivial fun Vf=>?_
       clear W aj;refine gn (by kernel_rfl) ?_ _;refine gN.normal ?_;generalize av:World.setCell w2 _ _=w3;have jn:=K (Qq iX zX av);clear av hold h1 iX ly nE n9 pg zX c2 c3;go_wp2;go_roundw
       case measure=>simp[intOf];omega
       exact⟨i+1,by omega,by simp,jn⟩
      refine j9 (o:=_) rfl (fun aj W=>?_) q6;(try simp only[bf,bg,bh]);go_simp
      skip
      refine aQ W trivial fun Vd=>?_
      clear W aj;refine rd 7 fun aj W=>?_
      (try simp only[bf,bg,bh]);go_simp
      skip
      refine aQ W trivial fun M8=>?_
      clear W aj;refine rd 14 fun aj W=>?_
      (try simp only[bf,bg,bh]);go_simp;refine(nE _ b7).mono ?_;rintro e w2 (⟨ae,rfl,af,bz⟩ | ⟨ae,⟨z,rfl,bq⟩,D⟩);rotate_left
      ·have bd:=K (show _∧_∧_ from ⟨bk ae CY,bq,ly.kp.below.trans (((Below.drew (ax _ _)).mono ly.gt.lo.2.2).trans D)⟩);clear ae bq D;unfold fI;go_wp2_with fail
       refine gN.panic (fun eP f7=>?_);have iO:Hid (eP.defers=[]):=f7;clear f7;go_wp2;exact⟨iO,.inr ⟨bd.1,⟨z,rfl,bd.2.1⟩,bd.2.2⟩⟩
      have lV:=(ly.gt.kp (Below.drew (ax _ _))).trans bz;have iX:=K (ly.call af lV);have n9:w2.cell? ⟨g,lH,none⟩=some (.int .i64 x)∧w2.cell? ⟨g,ev,none⟩=some (.int .i64 y):=⟨iX.cell pg.1,iX.cell pg.2⟩
      obtain⟨i4,hold⟩:∃i4,w2.cell? ⟨g,i,none⟩=some i4:=by
       obtain⟨kG,DE⟩:=bS (l:=(eG f bA (iN row) i).2++row.drop i) (k:=i) (by rw[iX.len];omega);exact⟨_,iX.cell DE⟩
      have h1:=iX.fz i;clear ae af bz lV;unfold hz;go_wp2_with fail
      refine aQ W trivial fun kz=>?_
      clear W aj;refine R 15 ?_;refine rd 16 fun aj W=>?_
      (try simp only[bf,bg,bh]);go_simp
      skip
      refine aQ W trivial fun Vf=>?_
      clear W aj;refine gn (by kernel_rfl) ?_ _;refine gN.normal ?_;generalize av:World.setCell w2 _ _=w3;have jn:=K (Qq iX zX av);clear av hold h1 iX ly nE n9 pg zX c2 c3;go_wp2;go_roundw
      case measure=>simp[intOf];omega
      exact⟨i+1,by omega,by simp,jn⟩
     ·have cQ:¬((i:Int)<(rB:Int)):=by omega
      have Q2:i=rB:=by omega
      subst Q2;have At:(row.getLastD 0)=row.getLastD 0:=rfl;obtain⟨aeW,VY⟩:=cf (row.getLastD 0);have sz:Hid (((eG f bA (iN row) i).2++row.drop i)[m - 1]?=some aeW):=by
       show _=_;rw[lu (by rw[CB _ (by rw[<-lz.out];omega)];omega),CB _ (by rw[<-lz.out];omega),vh,show i+(m - 1 - i)=m - 1 by omega,VY];exact aqs gT (by omega)
      have pk:=ly.cell sz;obtain⟨i4,hold⟩:∃i4,wr.cell? ⟨g,i,none⟩=some i4:=by
       obtain⟨kG,DE⟩:=bS (l:=(eG f bA (iN row) i).2++row.drop i) (k:=i) (by rw[ly.len];omega);exact⟨_,ly.cell DE⟩
      have h1:=ly.fz i;have Dl:IntKind.i64.wrap ((m:Int) - 1)=((m - 1:Nat):Int):=by rw[mj _ (by omega) (by omega)];omega
      have h2:((m - 1:Nat):Int)<(m:Int):=by omega
      have KF:(i:Int)<(m:Int):=by omega
      have HP:IntKind.i64.wrap ((i:Int)+1)=((i+1:Nat):Int):=by rw[mj _ (by omega) (by omega)];omega
      have nO:((i+1:Nat):Int)<=(cap:Int):=by omega
      have aol:i+1<=m:=by omega
      have jg:=K VY;generalize m - 1=m1 at *;generalize pp:i+1=IA at *;clear At VY cQ
      change Hid _ at pp
      go_wp2_with fail
      generalize av:World.setCell wr _ _=w3;have y0:=K (((ly.store i aeW av).cut IA aol));clear av hold h1 pk;go_wp2;go_roundw
      case measure=>simp;have:=pp.out;omega
      case rel =>
       refine⟨IA,Ak,_,_,by have:=pp.out;omega,by omega,by simp,?_,?_,?_,?_,Hi⟩
       ·show _=_;rw[<-pp.out,jw,Yf,<-lz.out];rfl
       ·have e:=y0.out;rw[aci _ _ _ _ (CB _ (by rw[<-lz.out];omega) _) (by rw[<-gT.out];omega),List.take_left' (by rw[jw,CB _ (by rw[<-lz.out];omega)];exact pp)] at e;rw[show ix f bA (iN row)=eG f bA (iN row) i by rw[lz.out,Sm],<-jg.out];exact e
       ·exact iY.1
       ·exact Hd
   ·have amb:(IntKind.i64.wrap (Int.tmod (m:Int) 2)==1)=false:=by rw[Int.tmod_eq_emod_of_nonneg (by omega),mj _ (by omega) (by omega)];simp;omega
    have amc:(m:Int)%2=0:=by omega
    have NP:¬row.length%2=1:=by rw[<-gT.out];exact Rl
    rw[if_neg NP,List.append_nil] at Hd iY uc Hi
    change Hid _ at Rl
    clear NP Q1;go_wp2_with fail
    go_loopw [23] (fun aq B=>∃(i:Nat),i<=rB∧aq = .int .i64 i∧Hid (nG C w B E M first (eG f bA (iN row) i).1 Ps g m cap ((eG f bA (iN row) i).2++row.drop i))) (fun aq _=>rB - (intOf aq).toNat)
    case atStart=>exact⟨0,cE _,rfl,bB⟩
    case round =>
     clear bB;obtain⟨i,hi,rfl,ly⟩:=hrel;by_cases qW:i<rB
     ·obtain⟨x,J⟩:=bS (l:=row) (k:=2*i) (by rw[<-gT.out];omega);obtain⟨y,aF⟩:=bS (l:=row) (k:=2*i+1) (by rw[<-gT.out];omega);have zX:=K (afK J aF);have pv:(eG f bA (iN row) i).2.length=i:=CB _ (by rw[<-lz.out];omega) _;have pg:Hid (((eG f bA (iN row) i).2++row.drop i)[2*i]?=some x∧((eG f bA (iN row) i).2++row.drop i)[2*i+1]?=some y):=by
       show _∧_;rw[lu (by omega),lu (by omega),pv,vh,vh,show i+(2*i - i)=2*i by omega,show i+(2*i+1 - i)=2*i+1 by omega];exact⟨J,aF⟩
      obtain⟨⟨nr,ek⟩,fG⟩:=eC bA row Jy.2 Jy.1 i x y zX;have nE:=K fun u (bb:V wr u)=>EN u _ x y (cK Ps g) (ly.gt.to bb) nr ek
      have CY:Hid ((f (eG f bA (iN row) i).1 (x,y)).1.length<=gI.1.length):=by show _<=_;rw[Hi.out];exact bL fG uc
      have aom:(i:Int)<(rB:Int):=by omega
      have bM:=bF ((i:Int)+1);obtain⟨lH,pp⟩:=cf (2*i);obtain⟨ev,eB⟩:=cf (2*i+1);have lg:IntKind.i64.wrap (2*(i:Int))=(lH:Int):=by rw[mj _ (by omega) (by omega)];omega
      have l8:IntKind.i64.wrap ((lH:Int)+1)=(ev:Int):=by rw[mj _ (by omega) (by omega)];omega
      have eX:(lH:Int)<(m:Int):=by omega
      have fH:(ev:Int)<(m:Int):=by omega
      have cy:(i:Int)<(m:Int):=by omega
      rw[<-eB,<-pp] at pg;have c2:=ly.cell pg.1;have c3:=ly.cell pg.2;clear fG nr ek pv J aF pp eB;go_upto_region 9 with fail
      refine nW ?_;refine ih (S:=(fun _=>True)) (by kernel_rfl) (by trivial) (fun ii=>?_);refine R 0 ?_;refine R 1 ?_;refine R 2 ?_;refine R 3 ?_;refine R 4 ?_;refine R 5 ?_;refine R 6 ?_;refine R 8 ?_;refine R 9 ?_;refine R 10 ?_;refine R 11 ?_;refine R 12 ?_;refine wpAnyH_ready (rs:=[7,13]) (by kernel_rfl) (by simp) ?_;refine j9 (o:=_) rfl (fun aj W=>?_) ?_
      ·(try simp only[bf,bg,bh]);go_simp
       skip
       refine aQ W trivial fun M8=>?_
       clear W aj;refine rd 13 fun aj W=>?_
       (try simp only[bf,bg,bh]);go_simp
       skip
       refine aQ W trivial fun Vd=>?_
       clear W aj;refine rd 14 fun aj W=>?_
       (try simp only[bf,bg,bh]);go_simp;refine(nE _ b7).mono ?_;rintro e w2 (⟨ae,rfl,af,bz⟩ | ⟨ae,⟨z,rfl,bq⟩,D⟩);rotate_left
       ·have bd:=K (show _∧_∧_ from ⟨bk ae CY,bq,ly.kp.below.trans (((Below.drew (ax _ _)).mono ly.gt.lo.2.2).trans D)⟩);clear ae bq D;unfold fI;go_wp2_with fail
        refine gN.panic (fun eP f7=>?_);have iO:Hid (eP.defers=[]):=f7;clear f7;go_wp2;exact⟨iO,.inr ⟨bd.1,⟨z,rfl,bd.2.1⟩,bd.2.2⟩⟩
       have lV:=(ly.gt.kp (Below.drew (ax _ _))).trans bz;have iX:=K (ly.call af lV);have n9:w2.cell? ⟨g,lH,none⟩=some (.int .i64 x)∧w2.cell? ⟨g,ev,none⟩=some (.int .i64 y):=⟨iX.cell pg.1,iX.cell pg.2⟩
       obtain⟨i4,hold⟩:∃i4,w2.cell? ⟨g,i,none⟩=some i4:=by
        obtain⟨kG,DE⟩:=bS (l:=(eG f bA (iN row) i).2++row.drop i) (k:=i) (by rw[iX.len];omega);exact⟨_,iX.cell DE⟩
       have h1:=iX.fz i;clear ae af bz lV;unfold hz;go_wp2_with fail
       refine aQ W trivial fun kz=>?_
       clear W aj;refine R 15 ?_;refine rd 16 fun aj W=>?_
       (try simp only[bf,bg,bh]);go_simp
       skip
       refine aQ W trivial fun Vf=>?_
       clear W aj;refine gn (by kernel_rfl) ?_ _;refine gN.normal ?_;generalize av:World.setCell w2 _ _=w3;have jn:=K (Qq iX zX av);clear av hold h1 iX ly nE n9 pg zX c2 c3;go_wp2;go_roundw
       case measure=>simp[intOf];omega
       exact⟨i+1,by omega,by simp,jn⟩
      refine j9 (o:=_) rfl (fun aj W=>?_) q6;(try simp only[bf,bg,bh]);go_simp
      skip
      refine aQ W trivial fun Vd=>?_
      clear W aj;refine rd 7 fun aj W=>?_
      (try simp only[bf,bg,bh]);go_simp
      skip
      refine aQ W trivial fun M8=>?_
      clear W aj;refine rd 14 fun aj W=>?_
      (try simp only[bf,bg,bh]);go_simp;refine(nE _ b7).mono ?_;rintro e w2 (⟨ae,rfl,af,bz⟩ | ⟨ae,⟨z,rfl,bq⟩,D⟩);rotate_left
      ·have bd:=K (show _∧_∧_ from ⟨bk ae CY,bq,ly.kp.below.trans (((Below.drew (ax _ _)).mono ly.gt.lo.2.2).trans D)⟩);clear ae bq D;unfold fI;go_wp2_with fail
       refine gN.panic (fun eP f7=>?_);have iO:Hid (eP.defers=[]):=f7;clear f7;go_wp2;exact⟨iO,.inr ⟨bd.1,⟨z,rfl,bd.2.1⟩,bd.2.2⟩⟩
      have lV:=(ly.gt.kp (Below.drew (ax _ _))).trans bz;have iX:=K (ly.call af lV);have n9:w2.cell? ⟨g,lH,none⟩=some (.int .i64 x)∧w2.cell? ⟨g,ev,none⟩=some (.int .i64 y):=⟨iX.cell pg.1,iX.cell pg.2⟩
      obtain⟨i4,hold⟩:∃i4,w2.cell? ⟨g,i,none⟩=some i4:=by
       obtain⟨kG,DE⟩:=bS (l:=(eG f bA (iN row) i).2++row.drop i) (k:=i) (by rw[iX.len];omega);exact⟨_,iX.cell DE⟩
      have h1:=iX.fz i;clear ae af bz lV;unfold hz;go_wp2_with fail
      refine aQ W trivial fun kz=>?_
      clear W aj;refine R 15 ?_;refine rd 16 fun aj W=>?_
      (try simp only[bf,bg,bh]);go_simp
      skip
      refine aQ W trivial fun Vf=>?_
      clear W aj;refine gn (by kernel_rfl) ?_ _;refine gN.normal ?_;generalize av:World.setCell w2 _ _=w3;have jn:=K (Qq iX zX av);clear av hold h1 iX ly nE n9 pg zX c2 c3;go_wp2;go_roundw
      case measure=>simp[intOf];omega
      exact⟨i+1,by omega,by simp,jn⟩
     ·have cQ:¬((i:Int)<(rB:Int)):=by omega
      have Q2:i=rB:=by omega
      subst Q2;have nO:(i:Int)<=(cap:Int):=by omega
      have y0:=K (ly.cut i (by omega));clear cQ;go_wp2;go_roundw
      case measure=>simp;omega
      case rel =>
       refine⟨i,Ak,_,_,by omega,by omega,by simp,?_,?_,?_,?_,Hi⟩
       ·show _=_;rw[Yf,<-lz.out]
       ·have e:=y0.out;rw[List.take_left' (CB _ (by rw[<-lz.out];omega) _)] at e;rw[show ix f bA (iN row)=eG f bA (iN row) i by rw[lz.out,Sm]];exact e
       ·exact iY.1
       ·exact Hd
  ·have cQ:¬((1:Int)<(m:Int)):=by omega
   have cn:m=1:=by omega
   subst cn;obtain⟨a,ad⟩:∃a,row=[a]:=List.length_eq_one_iff.1 gT.symm;have VA:=bB.cell (k:=0) (x:=a) (by rw[ad];rfl);have nZ:Hid (pi C w E M first Ps gI hz (.returned (.int .i64 a)) wr):=by
    show pi _ _ _ _ _ _ _ _ _ _;rw[BE.out,ad,amO];exact .inl ⟨bB.gt.len.1,rfl,bB.gt.less lK,bB.kp⟩
   clear ad;go_wp2;go_ret
   exact nZ
end Go.Proofs.YtcbcenfjigcfkaaGreatDoor
