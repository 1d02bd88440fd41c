import Derived.Test.YtlaljeobdddegaaJ01
namespace Go.Proofs.Ytlaljeobdddegaa
open Go.RowKit
theorem getElem_lt {α:Type} {l:List α} {k:Nat} (h:k<l.length):∃ d,l[k]?=some d:=⟨l[k],List.getElem?_eq_getElem h⟩
theorem andOk_of {G:GrD} {k:Nat} {d:AndD} (h:G.ands[k]?=some d):andOk G k=(litOk (G.first+k) d.x && litOk (G.first+k) d.y):=by
 unfold andOk;rw [h]
theorem range_false {p:Nat→Bool} {n k:Nat} (h:k<n) (hp:p k=false):(List.range n).all p=false:=by
 rw [List.all_eq_false];exact ⟨k,List.mem_range.2 h,by simp [hp]⟩
set_option maxRecDepth 100000 in
set_option maxHeartbeats 16000000 in
theorem graphValid_rest (B:Nat) (w:World) (S:GrS) (G:GrD) (h:GrAt B w S G) (hB:B≤w.heap.size) (hs:G.small) (r:Bool) (HR:Hid (r=((List.range G.ands.length).all (andOk G) && G.lats.all (latOk G) && G.outs.all (litOk G.vars)))) :
  Calls Try.prog 6 #[.agg (S.cells G)] w fun e w'=>e = .returned (.bool r)∧Below w.heap.size w w':=by
 obtain ⟨g0,g1,g2',g3',g4⟩:=hs
 have g2:(G.lats.length:Int)≤6000:=by omega
 have g3:(G.outs.length:Int)≤60000:=by omega
 have VA:Hid (∀ w,Calls Try.prog 16 #[.agg (S.cells G)] w fun e w'=>e = .returned (.int .i64 G.vars)∧Below w.heap.size w w'):=fun w=>vars_any w S G g0 g1 h.ll h.la
 have HNV:Hid (G.vars=1+G.ins+G.lats.length+G.ands.length):=rfl
 have g6:(G.ands.length:Int)≤60000:=by have:=HNV.out;omega
 have g7:1≤G.vars:=by have:=HNV.out;omega
 generalize hn:G.vars=n at *
 unfold GrS.cells at *
 clear g2' g3'
 go_enter Try.func6,Try.ntmps6
 go_wp2_with fail
 generalize hW:World.alloc w _=W
 have HB:Hid (Below w.heap.size w W):=by rw [←hW];exact (Below.refl _ _).alloc (Nat.le_refl _) _
 have QN:Hid (∀ j,W.cell? ⟨w.heap.size,j,none⟩=(#[.int .i64 G.ins,.slice S.a1 G.lats.length S.c1,.slice S.a2 G.ands.length S.c2,.slice S.a3 G.outs.length S.c3]:Array Value)[j]?):=by rw [←hW];intro j;simp
 have HAW:Hid (GrAt B W S G):=h.to (HB.out.mono hB)
 have hN:w.heap.size<W.heap.size:=by rw [←hW];simp
 have hBW:B≤W.heap.size:=Nat.le_trans hB HB.out.size
 clear hW h
 have tok:True:=trivial
 go_wp2_with (have _t:=tok;go_at_call 16;refine (VA.out _).mono ?_;rintro e w2 ⟨rfl,hb2⟩;have HB2:=hidden hb2;have u0:w2.cell? ⟨w.heap.size,0,none⟩=some (.int .i64 G.ins):=(hb2.cell (p:=⟨w.heap.size,0,none⟩) hN).trans (QN.out 0);have u1:w2.cell? ⟨w.heap.size,1,none⟩=some (.slice S.a1 G.lats.length S.c1):=(hb2.cell (p:=⟨w.heap.size,1,none⟩) hN).trans (QN.out 1);clear hb2 tok)
 clear u0 u1
 have GI:=hidden g0
 go_loopw [4] (fun i' w'=>∃ (k:Nat),k≤G.ands.length∧i' = .int .i64 k∧Hid ((List.range k).all (andOk G)=true)∧Hid (Below W.heap.size W w')) (fun i' _=>G.ands.length - (intOf i').toNat)
 case atStart=>exact ⟨0,Nat.zero_le _,rfl,rfl,HB2.out⟩
 case round =>
  obtain ⟨k,hk,rfl,HA,HBr⟩:=hrel
  have q2:wr.cell? ⟨w.heap.size,2,none⟩=some (.slice S.a2 G.ands.length S.c2):=(HBr.out.cell (p:=⟨w.heap.size,2,none⟩) hN).trans (QN.out 2)
  by_cases hlt:k<G.ands.length
  ·obtain ⟨d,hd⟩:=getElem_lt hlt
   obtain ⟨b,o,ea,hlb,hc⟩:=HAW.out.a.el hd
   have HD:=hidden hd
   have HC0:Hid (W.cell? ⟨b,o+k*2,none⟩=some (.int .i64 d.x)):=hc 0 _ rfl
   have HC1:Hid (W.cell? ⟨b,o+k*2+1,none⟩=some (.int .i64 d.y)):=hc 1 _ rfl
   have HAK:Hid (andOk G k=(litOk (G.first+k) d.x && litOk (G.first+k) d.y)):=andOk_of hd
   have HEA:=hidden ea
   have hbW:b<W.heap.size:=Nat.lt_of_lt_of_le hlb hBW
   have hltI:(k:Int)<(G.ands.length:Int):=by omega
   obtain ⟨x,y⟩:=d
   simp only at HC0 HC1 HAK
   clear hd hc ea hlb
   have e2:IntKind.i64.wrap ((k:Int)+1)=(k:Int)+1:=wrapI _ (by omega) (by omega)
   have e3:IntKind.i64.wrap (1+G.ins+(G.lats.length:Int)+(k:Int))=1+G.ins+(G.lats.length:Int)+(k:Int):=wrapI _ (by omega) (by omega)
   have e4:IntKind.i64.wrap (2*(1+G.ins+(G.lats.length:Int)+(k:Int)))=2*(1+G.ins+(G.lats.length:Int)+(k:Int)):=wrapI _ (by omega) (by omega)
   go_wp2_with fail
   go_loopw [5] (fun j' w'=>∃ (j:Nat),j≤2∧j' = .int .i64 j∧Hid (1≤j→litOk (G.first+k) x=true)∧Hid (2≤j→litOk (G.first+k) y=true)∧Hid (Below W.heap.size W w')) (fun j' _=>2 - (intOf j').toNat)
   case atStart=>exact ⟨0,by omega,rfl,fun h=>by omega,fun h=>by omega,HBr.out⟩
   case round =>
    obtain ⟨j,hj,rfl,HX,HY,HBj⟩:=hrel
    have c2:wr.cell? ⟨w.heap.size,2,none⟩=some (.slice (some ⟨b,o,none⟩) G.ands.length S.c2):=((HBj.out.cell (p:=⟨w.heap.size,2,none⟩) hN).trans (QN.out 2)).trans (by rw [HEA.out];rfl)
    have hjc:j=0∨j=1∨j=2:=by omega
    rcases hjc with rfl | rfl | rfl
    ·have c0:wr.cell? ⟨b,o+k*2,none⟩=some (.int .i64 x):=(HBj.out.cell (p:=⟨b,o+k*2,none⟩) hbW).trans HC0.out
     have HL:Hid (litOk (G.first+k) x=decide (0≤x∧x<2*(1+G.ins+(G.lats.length:Int)+(k:Int)))):=rfl
     by_cases a0:x<0
     ·have HF:Hid (r=false):=by
       show _=_
       rw [HR.out,range_false hlt (by rw [HAK.out,HL.out,decide_eq_false (by omega)];rfl)];rfl
      clear HR
      go_wp2
      go_ret
      exact ⟨ret_bool HF.out.symm,HB.out.trans (HBj.out.mono HB.out.size)⟩
     ·by_cases a1:x<2*(1+G.ins+(G.lats.length:Int)+(k:Int))
      ·have HL1:Hid (litOk (G.first+k) x=true):=by show _=_;rw [HL.out,decide_eq_true (by omega)]
       go_wp2
       go_roundw
       case measure=>simp [intOf]
       case rel=>exact ⟨1,by omega,rfl,fun _=>HL1.out,fun h=>by omega,HBj.out⟩
      ·have HF:Hid (r=false):=by
        show _=_
        rw [HR.out,range_false hlt (by rw [HAK.out,HL.out,decide_eq_false (by omega)];rfl)];rfl
       clear HR
       go_wp2
       go_ret
       exact ⟨ret_bool HF.out.symm,HB.out.trans (HBj.out.mono HB.out.size)⟩
    ·have c0:wr.cell? ⟨b,o+k*2+1,none⟩=some (.int .i64 y):=(HBj.out.cell (p:=⟨b,o+k*2+1,none⟩) hbW).trans HC1.out
     have HL:Hid (litOk (G.first+k) y=decide (0≤y∧y<2*(1+G.ins+(G.lats.length:Int)+(k:Int)))):=rfl
     by_cases a0:y<0
     ·have HF:Hid (r=false):=by
       show _=_
       rw [HR.out,range_false hlt (by rw [HAK.out,HL.out,decide_eq_false (by omega),Bool.and_false])];rfl
      clear HR
      go_wp2
      go_ret
      exact ⟨ret_bool HF.out.symm,HB.out.trans (HBj.out.mono HB.out.size)⟩
     ·by_cases a1:y<2*(1+G.ins+(G.lats.length:Int)+(k:Int))
      ·have HL1:Hid (litOk (G.first+k) y=true):=by show _=_;rw [HL.out,decide_eq_true (by omega)]
       go_wp2
       go_roundw
       case measure=>simp [intOf]
       case rel=>exact ⟨2,by omega,rfl,fun _=>HX.out (by omega),fun _=>HL1.out,HBj.out⟩
      ·have HF:Hid (r=false):=by
        show _=_
        rw [HR.out,range_false hlt (by rw [HAK.out,HL.out,decide_eq_false (by omega),Bool.and_false])];rfl
       clear HR
       go_wp2
       go_ret
       exact ⟨ret_bool HF.out.symm,HB.out.trans (HBj.out.mono HB.out.size)⟩
    ·have HN:Hid ((List.range (k+1)).all (andOk G)=true):=by
      show _=_
      rw [range_next,HA.out,HAK.out,HX.out (by omega),HY.out (by omega)];rfl
     clear HX HY
     go_wp2
     go_roundw
     case measure=>simp [intOf];omega
     case rel=>exact ⟨k+1,by omega,by simp,HN.out,HBj.out⟩
  ·have hge:¬ ((k:Int)<(G.ands.length:Int)):=by omega
   have HA':Hid ((List.range G.ands.length).all (andOk G)=true):=by
    have:=HA.out
    rwa [show k=G.ands.length by omega] at this
   clear HA
   have p0:wr.cell? ⟨w.heap.size,0,none⟩=some (.int .i64 G.ins):=(HBr.out.cell (p:=⟨w.heap.size,0,none⟩) hN).trans (QN.out 0)
   have p1:wr.cell? ⟨w.heap.size,1,none⟩=some (.slice S.a1 G.lats.length S.c1):=(HBr.out.cell (p:=⟨w.heap.size,1,none⟩) hN).trans (QN.out 1)
   have p3:wr.cell? ⟨w.heap.size,3,none⟩=some (.slice S.a3 G.outs.length S.c3):=(HBr.out.cell (p:=⟨w.heap.size,3,none⟩) hN).trans (QN.out 3)
   have e5:IntKind.i64.wrap (2*n)=2*n:=wrapI _ (by omega) (by omega)
   have tok:True:=trivial
   go_wp2_with (have _t:=tok;go_at_call 16;refine (VA.out _).mono ?_;rintro e w3 ⟨rfl,hb3⟩;have HB3:=hidden (HBr.out.trans (hb3.mono HBr.out.size));clear hb3 tok)
   clear p0 p1 p3 q2 HBr
   go_loopw [8] (fun i' w'=>∃ (k:Nat),k≤G.lats.length∧i' = .int .i64 k∧Hid ((G.lats.take k).all (latOk G)=true)∧Hid (Below W.heap.size W w')) (fun i' _=>G.lats.length - (intOf i').toNat)
   case atStart=>exact ⟨0,Nat.zero_le _,rfl,rfl,HB3.out⟩
   case round =>
    obtain ⟨k2,hk2,rfl,HL,HBr⟩:=hrel
    have q1:wr.cell? ⟨w.heap.size,1,none⟩=some (.slice S.a1 G.lats.length S.c1):=(HBr.out.cell (p:=⟨w.heap.size,1,none⟩) hN).trans (QN.out 1)
    by_cases hlt2:k2<G.lats.length
    ·obtain ⟨d,hd⟩:=getElem_lt hlt2
     obtain ⟨b,o,ea,hlb,hc⟩:=HAW.out.l.el hd
     have HD:=hidden hd
     have hbW:b<W.heap.size:=Nat.lt_of_lt_of_le hlb hBW
     have c0:wr.cell? ⟨b,o+k2*2,none⟩=some (.int .i64 d.next):=(HBr.out.cell (p:=⟨b,o+k2*2,none⟩) hbW).trans (hc 0 _ rfl)
     have hltI:(k2:Int)<(G.lats.length:Int):=by omega
     rw [ea] at q1
     have e2:IntKind.i64.wrap ((k2:Int)+1)=(k2:Int)+1:=wrapI _ (by omega) (by omega)
     obtain ⟨x,y⟩:=d
     simp only at c0
     have HLL:Hid (latOk G ⟨x,y⟩=decide (0≤x∧x<2*n)):=by show _=_;unfold latOk litOk;rw [hn]
     clear hd hc ea hlb
     by_cases a0:x<0
     ·have HF:Hid (r=false):=by
       show _=_
       rw [HR.out,show G.lats.all (latOk G)=false from List.all_eq_false.2 ⟨_,List.mem_of_getElem? HD.out,by rw [HLL.out,decide_eq_false (by omega)];decide⟩,Bool.and_false];rfl
      clear HR
      go_wp2
      go_ret
      exact ⟨ret_bool HF.out.symm,HB.out.trans (HBr.out.mono HB.out.size)⟩
     ·by_cases a1:x<2*n
      ·have HN1:Hid ((G.lats.take (k2+1)).all (latOk G)=true):=by
        show _=_
        rw [all_next _ _ k2 _ HD.out,HL.out,HLL.out,decide_eq_true (by omega)];rfl
       go_wp2
       go_roundw
       case measure=>simp [intOf];omega
       case rel=>exact ⟨k2+1,by omega,by simp,HN1.out,HBr.out⟩
      ·have HF:Hid (r=false):=by
        show _=_
        rw [HR.out,show G.lats.all (latOk G)=false from List.all_eq_false.2 ⟨_,List.mem_of_getElem? HD.out,by rw [HLL.out,decide_eq_false (by omega)];decide⟩,Bool.and_false];rfl
       clear HR
       go_wp2
       go_ret
       exact ⟨ret_bool HF.out.symm,HB.out.trans (HBr.out.mono HB.out.size)⟩
    ·have hge2:¬ ((k2:Int)<(G.lats.length:Int)):=by omega
     have HL':Hid (G.lats.all (latOk G)=true):=by
      have:=HL.out
      rwa [List.take_of_length_le (by omega)] at this
     clear HL
     go_wp2_with fail
     go_loopw [10] (fun i' w'=>∃ (k:Nat),k≤G.outs.length∧i' = .int .i64 k∧Hid ((G.outs.take k).all (litOk n)=true)∧Hid (Below W.heap.size W w')) (fun i' _=>G.outs.length - (intOf i').toNat)
     case atStart=>exact ⟨0,Nat.zero_le _,rfl,rfl,HBr.out⟩
     case round =>
      obtain ⟨k3,hk3,rfl,HO,HBo⟩:=hrel
      have q3:wr.cell? ⟨w.heap.size,3,none⟩=some (.slice S.a3 G.outs.length S.c3):=(HBo.out.cell (p:=⟨w.heap.size,3,none⟩) hN).trans (QN.out 3)
      by_cases hlt3:k3<G.outs.length
      ·obtain ⟨x,hd⟩:=getElem_lt hlt3
       obtain ⟨b,o,ea,hlb,hc⟩:=HAW.out.o.el hd
       have HD:=hidden hd
       have hbW:b<W.heap.size:=Nat.lt_of_lt_of_le hlb hBW
       have c0:wr.cell? ⟨b,o+k3,none⟩=some (.int .i64 x):=(HBo.out.cell (p:=⟨b,o+k3,none⟩) hbW).trans ((congrArg (fun m=>W.cell? ⟨b,o+m,none⟩) (Nat.mul_one k3).symm).trans (hc 0 _ rfl))
       have hltI:(k3:Int)<(G.outs.length:Int):=by omega
       rw [ea] at q3
       have e2:IntKind.i64.wrap ((k3:Int)+1)=(k3:Int)+1:=wrapI _ (by omega) (by omega)
       have HLL:Hid (litOk n x=decide (0≤x∧x<2*n)):=rfl
       clear hd hc ea hlb
       by_cases a0:x<0
       ·have HF:Hid (r=false):=by
         show _=_
         rw [HR.out,show G.outs.all (litOk n)=false from List.all_eq_false.2 ⟨_,List.mem_of_getElem? HD.out,by rw [HLL.out,decide_eq_false (by omega)];decide⟩,Bool.and_false]
        clear HR
        go_wp2
        go_ret
        exact ⟨ret_bool HF.out.symm,HB.out.trans (HBo.out.mono HB.out.size)⟩
       ·by_cases a1:x<2*n
        ·have HN1:Hid ((G.outs.take (k3+1)).all (litOk n)=true):=by
          show _=_
          rw [all_next _ _ k3 _ HD.out,HO.out,HLL.out,decide_eq_true (by omega)];rfl
         go_wp2
         go_roundw
         case measure=>simp [intOf];omega
         case rel=>exact ⟨k3+1,by omega,by simp,HN1.out,HBo.out⟩
        ·have HF:Hid (r=false):=by
          show _=_
          rw [HR.out,show G.outs.all (litOk n)=false from List.all_eq_false.2 ⟨_,List.mem_of_getElem? HD.out,by rw [HLL.out,decide_eq_false (by omega)];decide⟩,Bool.and_false]
         clear HR
         go_wp2
         go_ret
         exact ⟨ret_bool HF.out.symm,HB.out.trans (HBo.out.mono HB.out.size)⟩
      ·have hge3:¬ ((k3:Int)<(G.outs.length:Int)):=by omega
       have HO':Hid (G.outs.all (litOk n)=true):=by
        have:=HO.out
        rwa [List.take_of_length_le (by omega)] at this
       have HF:Hid (r=true):=by show _=_;rw [HR.out,HA'.out,HL'.out,HO'.out];rfl
       clear HO HR
       go_wp2
       go_ret
       exact ⟨ret_bool HF.out.symm,HB.out.trans (HBo.out.mono HB.out.size)⟩
theorem graphValid_any (B:Nat) (w:World) (S:GrS) (G:GrD) (h:GrAt B w S G) (hB:B≤w.heap.size) :
  Calls Try.prog 6 #[.agg (S.cells G)] w fun e w'=>e = .returned (.bool (GrOk G))∧Below w.heap.size w w':=by
 by_cases hs:G.small
 ·refine graphValid_rest B w S G h hB hs _ ?_
  show _=_
  unfold GrOk;rw [decide_eq_true hs,Bool.true_and]
 ·have e:GrOk G=false:=by unfold GrOk;rw [decide_eq_false hs];rfl
  rw [e];exact graphValid_small B w S G h hs
end Go.Proofs.Ytlaljeobdddegaa
