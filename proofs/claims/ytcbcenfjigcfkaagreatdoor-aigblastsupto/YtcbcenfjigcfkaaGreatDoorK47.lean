import Derived.Test.YtcbcenfjigcfkaaGreatDoorK01
set_option maxRecDepth 100000
set_option maxHeartbeats 40000000
namespace Go.Proofs.YtcbcenfjigcfkaaGreatDoor
open Go.RowKit
theorem am6 (Y:Nat) (w:World) (S:jm) (G:eq) (h:iB Y w S G) (hs:¬G.small) :
  Calls Tryz.prog 12 #[.agg (S.cells G)] w fun e B=>e = .returned (.bool false)∧V w B:=by
 have kD:=K h.ll;have lI:=K h.la;have zx:=K h.lo;have jD:G.ins<0∨(0<=G.ins∧60000<G.ins)∨(0<=G.ins∧G.ins<=60000∧6000<(G.lats.length:Int))∨(0<=G.ins∧G.ins<=60000∧(G.lats.length:Int)<=6000∧60000<(G.outs.length:Int))∨(0<=G.ins∧G.ins<=60000∧(G.lats.length:Int)<=6000∧(G.outs.length:Int)<=60000∧60000<G.vars):=by
  unfold eq.small at hs;omega
 have BL:Hid (0<=G.ins->G.ins<=60000->∀w,Calls Tryz.prog 31 #[.agg (S.cells G)] w fun e B=>e = .returned (.int .i64 G.vars)∧V w B):=fun aI F w=>ahT w S G aI F h.ll h.la
 generalize G.vars=n at *;clear hs h kD lI zx;unfold jm.cells at *;rcases jD with bY | ⟨kT,bY⟩ | ⟨kT,bY,bK⟩ | ⟨kT,bY,bK,h7⟩ | ⟨kT,bY,bK,h7,lS⟩
 all_goals
  go_enter Tryz.func12,Tryz.ntmps12
  go_wp2_with (go_at_call 31;refine(BL kT bY _).mono ?_;rintro e w2 ⟨rfl,bH⟩)
  go_ret
  first
  | exact⟨rfl,(ax _ _).alloc (aL _) _⟩
  | exact⟨rfl,((ax _ _).alloc (aL _) _).trans (bH.mono (by simp))⟩
theorem Sc {p:Nat->Bool} {n k:Nat} (h:k<n) (aE:p k=false):(List.range n).all p=false:=by
 rw[List.all_eq_false];exact⟨k,om.2 h,by simp[aE]⟩
theorem am5 (Y:Nat) (w:World) (S:jm) (G:eq) (h:iB Y w S G) (aM:Y<=w.heap.size) (hs:G.small) (r:Bool) (bR:Hid (r=((List.range G.ands.length).all (Dg G)&&G.lats.all (Ck G)&&G.outs.all (od G.vars)))) :
  Calls Tryz.prog 12 #[.agg (S.cells G)] w fun e B=>e = .returned (.bool r)∧V w B:=by
 obtain⟨kT,bY,amX,amY,lS⟩:=hs;have bK:(G.lats.length:Int)<=6000:=by omega
 have h7:(G.outs.length:Int)<=60000:=by omega
 have BL:Hid (∀w,Calls Tryz.prog 31 #[.agg (S.cells G)] w fun e B=>e = .returned (.int .i64 G.vars)∧V w B):=fun w=>ahT w S G kT bY h.ll h.la
 have Z9:Hid (G.vars=1+G.ins+G.lats.length+G.ands.length):=rfl;have ax2:(G.ands.length:Int)<=60000:=by have:=Z9.out;omega
 have amZ:1<=G.vars:=by have:=Z9.out;omega
 generalize ag:G.vars=n at *;unfold jm.cells at *;clear amX amY;go_enter Tryz.func12,Tryz.ntmps12
 go_wp2_with fail
 generalize av:World.alloc w _=I;have aD:Hid (V w I):=by rw[<-av];exact(ax _ _).alloc (aL _) _
 have e8:Hid (∀j,I.cell? ⟨w.heap.size,j,none⟩=(#[.int .i64 G.ins,.slice S.a1 G.lats.length S.c1,.slice S.a2 G.ands.length S.c2,.slice S.a3 G.outs.length S.c3]:Array Value)[j]?):=by rw[<-av];intro j;simp
 have hU:Hid (iB Y I S G):=h.to (aD.mono aM);have a8:w.heap.size<I.heap.size:=by rw[<-av];simp
 have gE:Y<=I.heap.size:=bL aM aD.size;clear av h;have tok:True:=trivial;go_wp2_with (have _t:=tok;go_at_call 31;refine(BL _).mono ?_;rintro e w2 ⟨rfl,bH⟩;have cg:=K bH;have u0:w2.cell? ⟨w.heap.size,0,none⟩=some (.int .i64 G.ins):=(bH.cell (p:=⟨w.heap.size,0,none⟩) a8).trans (e8 0);have u1:w2.cell? ⟨w.heap.size,1,none⟩=some (.slice S.a1 G.lats.length S.c1):=(bH.cell (p:=⟨w.heap.size,1,none⟩) a8).trans (e8 1);clear bH tok)
 clear u0 u1;have aw3:=K kT;go_loopw [4] (fun aq B=>∃(k:Nat),k<=G.ands.length∧aq = .int .i64 k∧Hid ((List.range k).all (Dg G)=true)∧Hid (V I B)) (fun aq _=>G.ands.length - (intOf aq).toNat)
 case atStart=>exact⟨0,cE _,rfl,rfl,cg⟩
 case round =>
  obtain⟨k,X,rfl,f5,au⟩:=hrel;have eX:wr.cell? ⟨w.heap.size,2,none⟩=some (.slice S.a2 G.ands.length S.c2):=(au.cell (p:=⟨w.heap.size,2,none⟩) a8).trans (e8 2);by_cases aB:k<G.ands.length
  ·obtain⟨d,U⟩:=bS aB;obtain⟨b,o,bQ,pr,ar⟩:=hU.a.el U;have Zo:Hid (I.cell? ⟨b,o+k*2,none⟩=some (.int .i64 d.x)):=ar 0 _ rfl;have Zp:Hid (I.cell? ⟨b,o+k*2+1,none⟩=some (.int .i64 d.y)):=ar 1 _ rfl;have Jz:Hid (Dg G k=(od (G.first+k) d.x&&od (G.first+k) d.y)):=abC U;have yz:b<I.heap.size:=bk pr gE;have fa:(k:Int)<(G.ands.length:Int):=by omega
   obtain⟨x,y⟩:=d;simp only at Zo Zp Jz
   change Hid _ at U bQ
   clear ar pr;have aS:=bF ((k:Int)+1);have bM:=bF (1+G.ins+(G.lats.length:Int)+(k:Int));have lg:=bF (2*(1+G.ins+(G.lats.length:Int)+(k:Int)));go_wp2_with fail
   go_loopw [5] (fun sX B=>∃(j:Nat),j<=2∧sX = .int .i64 j∧Hid (1<=j->od (G.first+k) x=true)∧Hid (2<=j->od (G.first+k) y=true)∧Hid (V I B)) (fun sX _=>2 - (intOf sX).toNat)
   case atStart=>exact⟨0,by omega,rfl,fun h=>by omega,fun h=>by omega,au⟩
   case round =>
    obtain⟨j,aT,rfl,iC,BI,Bw⟩:=hrel;have c2:wr.cell? ⟨w.heap.size,2,none⟩=some (.slice (some ⟨b,o,none⟩) G.ands.length S.c2):=((Bw.cell (p:=⟨w.heap.size,2,none⟩) a8).trans (e8 2)).trans (by rw[bQ.out];rfl);have VU:j=0∨j=1∨j=2:=by omega
    rcases VU with rfl | rfl | rfl
    ·have c0:wr.cell? ⟨b,o+k*2,none⟩=some (.int .i64 x):=(Bw.cell (p:=⟨b,o+k*2,none⟩) yz).trans Zo.out;have lO:Hid (od (G.first+k) x=decide (0<=x∧x<2*(1+G.ins+(G.lats.length:Int)+(k:Int)))):=rfl;by_cases a0:x<0
     ·have ch:Hid (r=false):=by
       show _=_;rw[bR.out,Sc aB (by rw[Jz.out,lO.out,decide_eq_false (by omega)];rfl)];rfl
      clear bR;go_wp2;go_ret
      exact⟨ia ch.symm,aD.trans (Bw.mono aD.size)⟩
     ·by_cases a1:x<2*(1+G.ins+(G.lats.length:Int)+(k:Int))
      ·have sz:Hid (od (G.first+k) x=true):=by show _=_;rw[lO.out,decide_eq_true (by omega)]
       go_wp2;go_roundw
       case measure=>simp[intOf]
       case rel=>exact⟨1,by omega,rfl,fun _=>sz.out,fun h=>by omega,Bw⟩
      ·have ch:Hid (r=false):=by
        show _=_;rw[bR.out,Sc aB (by rw[Jz.out,lO.out,decide_eq_false (by omega)];rfl)];rfl
       clear bR;go_wp2;go_ret
       exact⟨ia ch.symm,aD.trans (Bw.mono aD.size)⟩
    ·have c0:wr.cell? ⟨b,o+k*2+1,none⟩=some (.int .i64 y):=(Bw.cell (p:=⟨b,o+k*2+1,none⟩) yz).trans Zp.out;have lO:Hid (od (G.first+k) y=decide (0<=y∧y<2*(1+G.ins+(G.lats.length:Int)+(k:Int)))):=rfl;by_cases a0:y<0
     ·have ch:Hid (r=false):=by
       show _=_;rw[bR.out,Sc aB (by rw[Jz.out,lO.out,decide_eq_false (by omega),Bool.and_false])];rfl
      clear bR;go_wp2;go_ret
      exact⟨ia ch.symm,aD.trans (Bw.mono aD.size)⟩
     ·by_cases a1:y<2*(1+G.ins+(G.lats.length:Int)+(k:Int))
      ·have sz:Hid (od (G.first+k) y=true):=by show _=_;rw[lO.out,decide_eq_true (by omega)]
       go_wp2;go_roundw
       case measure=>simp[intOf]
       case rel=>exact⟨2,by omega,rfl,fun _=>iC (by omega),fun _=>sz.out,Bw⟩
      ·have ch:Hid (r=false):=by
        show _=_;rw[bR.out,Sc aB (by rw[Jz.out,lO.out,decide_eq_false (by omega),Bool.and_false])];rfl
       clear bR;go_wp2;go_ret
       exact⟨ia ch.symm,aD.trans (Bw.mono aD.size)⟩
    ·have bP:Hid ((List.range (k+1)).all (Dg G)=true):=by
      show _=_;rw[af2,f5.out,Jz.out,iC (by omega),BI (by omega)];rfl
     clear iC BI;go_wp2;go_roundw
     case measure=>simp[intOf];omega
     exact⟨k+1,by omega,by simp,bP.out,Bw⟩
  ·have cQ:¬((k:Int)<(G.ands.length:Int)):=by omega
   have iO:Hid ((List.range G.ands.length).all (Dg G)=true):=by
    have:=f5.out
    rwa [show k=G.ands.length by omega] at this
   clear f5;have m6:wr.cell? ⟨w.heap.size,0,none⟩=some (.int .i64 G.ins):=(au.cell (p:=⟨w.heap.size,0,none⟩) a8).trans (e8 0);have co:wr.cell? ⟨w.heap.size,1,none⟩=some (.slice S.a1 G.lats.length S.c1):=(au.cell (p:=⟨w.heap.size,1,none⟩) a8).trans (e8 1);have lk:wr.cell? ⟨w.heap.size,3,none⟩=some (.slice S.a3 G.outs.length S.c3):=(au.cell (p:=⟨w.heap.size,3,none⟩) a8).trans (e8 3);have l8:=bF (2*n);have tok:True:=trivial;go_wp2_with (have _t:=tok;go_at_call 31;refine(BL _).mono ?_;rintro e w3 ⟨rfl,b8⟩;have go:=K (au.trans (b8.mono au.size));clear b8 tok)
   clear m6 co lk eX au;go_loopw [8] (fun aq B=>∃(k:Nat),k<=G.lats.length∧aq = .int .i64 k∧Hid ((G.lats.take k).all (Ck G)=true)∧Hid (V I B)) (fun aq _=>G.lats.length - (intOf aq).toNat)
   case atStart=>exact⟨0,cE _,rfl,rfl,go⟩
   case round =>
    obtain⟨k2,bz,rfl,lO,au⟩:=hrel;have cy:wr.cell? ⟨w.heap.size,1,none⟩=some (.slice S.a1 G.lats.length S.c1):=(au.cell (p:=⟨w.heap.size,1,none⟩) a8).trans (e8 1);by_cases oZ:k2<G.lats.length
    ·obtain⟨d,U⟩:=bS oZ;obtain⟨b,o,bQ,pr,ar⟩:=hU.l.el U;have yz:b<I.heap.size:=bk pr gE;have c0:wr.cell? ⟨b,o+k2*2,none⟩=some (.int .i64 d.next):=(au.cell (p:=⟨b,o+k2*2,none⟩) yz).trans (ar 0 _ rfl);have fa:(k2:Int)<(G.lats.length:Int):=by omega
     rw[bQ] at cy;have aS:=bF ((k2:Int)+1);obtain⟨x,y⟩:=d;simp only at c0;have w7:Hid (Ck G ⟨x,y⟩=decide (0<=x∧x<2*n)):=by show _=_;unfold Ck od;rw[ag]
     change Hid _ at U
     clear ar bQ pr;by_cases a0:x<0
     ·have ch:Hid (r=false):=by
       show _=_;rw[bR.out,show G.lats.all (Ck G)=false from List.all_eq_false.2 ⟨_,bn U,by rw[w7.out,decide_eq_false (by omega)];decide⟩,Bool.and_false];rfl
      clear bR;go_wp2;go_ret
      exact⟨ia ch.symm,aD.trans (au.mono aD.size)⟩
     ·by_cases a1:x<2*n
      ·have zU:Hid ((G.lats.take (k2+1)).all (Ck G)=true):=by
        show _=_;rw[Fg _ _ k2 _ U,lO.out,w7.out,decide_eq_true (by omega)];rfl
       go_wp2;go_roundw
       case measure=>simp[intOf];omega
       exact⟨k2+1,by omega,by simp,zU.out,au⟩
      ·have ch:Hid (r=false):=by
        show _=_;rw[bR.out,show G.lats.all (Ck G)=false from List.all_eq_false.2 ⟨_,bn U,by rw[w7.out,decide_eq_false (by omega)];decide⟩,Bool.and_false];rfl
       clear bR;go_wp2;go_ret
       exact⟨ia ch.symm,aD.trans (au.mono aD.size)⟩
    ·have As:¬((k2:Int)<(G.lats.length:Int)):=by omega
     have aiW:Hid (G.lats.all (Ck G)=true):=by
      have:=lO.out
      rwa [fQ (by omega)] at this
     clear lO;go_wp2_with fail
     go_loopw [10] (fun aq B=>∃(k:Nat),k<=G.outs.length∧aq = .int .i64 k∧Hid ((G.outs.take k).all (od n)=true)∧Hid (V I B)) (fun aq _=>G.outs.length - (intOf aq).toNat)
     case atStart=>exact⟨0,cE _,rfl,rfl,au⟩
     case round =>
      obtain⟨k3,lV,rfl,a6,JE⟩:=hrel;have fH:wr.cell? ⟨w.heap.size,3,none⟩=some (.slice S.a3 G.outs.length S.c3):=(JE.cell (p:=⟨w.heap.size,3,none⟩) a8).trans (e8 3);by_cases Ii:k3<G.outs.length
      ·obtain⟨x,U⟩:=bS Ii;obtain⟨b,o,bQ,pr,ar⟩:=hU.o.el U;have yz:b<I.heap.size:=bk pr gE;have c0:wr.cell? ⟨b,o+k3,none⟩=some (.int .i64 x):=(JE.cell (p:=⟨b,o+k3,none⟩) yz).trans ((congrArg (fun m=>I.cell? ⟨b,o+m,none⟩) (Nat.mul_one k3).symm).trans (ar 0 _ rfl));have fa:(k3:Int)<(G.outs.length:Int):=by omega
       rw[bQ] at fH;have aS:=bF ((k3:Int)+1);have w7:Hid (od n x=decide (0<=x∧x<2*n)):=rfl
       change Hid _ at U
       clear ar bQ pr;by_cases a0:x<0
       ·have ch:Hid (r=false):=by
         show _=_;rw[bR.out,show G.outs.all (od n)=false from List.all_eq_false.2 ⟨_,bn U,by rw[w7.out,decide_eq_false (by omega)];decide⟩,Bool.and_false]
        clear bR;go_wp2;go_ret
        exact⟨ia ch.symm,aD.trans (JE.mono aD.size)⟩
       ·by_cases a1:x<2*n
        ·have zU:Hid ((G.outs.take (k3+1)).all (od n)=true):=by
          show _=_;rw[Fg _ _ k3 _ U,a6.out,w7.out,decide_eq_true (by omega)];rfl
         go_wp2;go_roundw
         case measure=>simp[intOf];omega
         exact⟨k3+1,by omega,by simp,zU.out,JE⟩
        ·have ch:Hid (r=false):=by
          show _=_;rw[bR.out,show G.outs.all (od n)=false from List.all_eq_false.2 ⟨_,bn U,by rw[w7.out,decide_eq_false (by omega)];decide⟩,Bool.and_false]
         clear bR;go_wp2;go_ret
         exact⟨ia ch.symm,aD.trans (JE.mono aD.size)⟩
      ·have VO:¬((k3:Int)<(G.outs.length:Int)):=by omega
       have EY:Hid (G.outs.all (od n)=true):=by
        have:=a6.out
        rwa [fQ (by omega)] at this
       have ch:Hid (r=true):=by show _=_;rw[bR.out,iO.out,aiW.out,EY.out];rfl
       clear a6 bR;go_wp2;go_ret
       exact⟨ia ch.symm,aD.trans (JE.mono aD.size)⟩
theorem am4 (Y:Nat) (w:World) (S:jm) (G:eq) (h:iB Y w S G) (aM:Y<=w.heap.size) :
  Calls Tryz.prog 12 #[.agg (S.cells G)] w fun e B=>e = .returned (.bool (Ju G))∧V w B:=by
 by_cases hs:G.small
 ·refine am5 Y w S G h aM hs _ ?_;show _=_;unfold Ju;rw[decide_eq_true hs,Bool.true_and]
 ·have e:Ju G=false:=by unfold Ju;rw[decide_eq_false hs];rfl
  rw[e];exact am6 Y w S G h hs
end Go.Proofs.YtcbcenfjigcfkaaGreatDoor
