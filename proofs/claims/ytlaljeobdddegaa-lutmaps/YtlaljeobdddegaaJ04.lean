import Derived.Test.YtlaljeobdddegaaJ03
import Derived.OwnWalk
import Derived.Deep.AppendLies
namespace Go.Proofs.Ytlaljeobdddegaa
open Go.RowKit
set_option maxRecDepth 100000 in
set_option maxHeartbeats 16000000 in
theorem valid_rest (B:Nat) (w:World) (S:GrS) (G:GrD) (h:GrAt B w S G) (hB:B≤w.heap.size) (hs:G.small) (r:Bool) (HR:Hid (r=((List.range G.ands.length).all (andOk G) && G.lats.all (latOk G) && G.outs.all (litOk G.vars)))) :
  Calls Try.prog 17 #[.agg (S.cells G)] w fun e w'=>e = .returned (.bool r)∧Below w.heap.size w w':=by
 obtain ⟨g0,g1',g2',g3',g4⟩:=hs
 have HNV:Hid (G.vars=1+G.ins+G.lats.length+G.ands.length):=rfl
 have HFV:Hid (G.first=1+G.ins+G.lats.length):=rfl
 have g2:(G.lats.length:Int)≤6000:=by omega
 have g3:(G.outs.length:Int)≤60000:=by omega
 have g1:G.ins<60000:=by have:=HNV.out;omega
 have g6:(G.ands.length:Int)<60000:=by have:=HNV.out;omega
 have g7:1≤G.vars:=by have:=HNV.out;omega
 have g8:1≤G.first:=by have:=HFV.out;omega
 have g9:G.first≤70000:=by have:=HFV.out;omega
 have VA:Hid (∀ w p,BoxAt w p S G→Calls Try.prog 29 #[.pointer (some ⟨p,0,none⟩)] w fun e w'=>e = .returned (.int .i64 G.vars)∧∃ n,w'=w.drewN n):=fun w p hb=>variables_any w p S G hb g0 g1' h.ll h.la
 have FA:Hid (∀ w p,BoxAt w p S G→Calls Try.prog 30 #[.pointer (some ⟨p,0,none⟩)] w fun e w'=>e = .returned (.int .i64 G.first)∧∃ n,w'=w.drewN n):=fun w p hb=>firstGate_any w p S G hb g0 g1' h.ll
 have HLA:Hid (∀ k d,G.ands[k]?=some d→andOk G k=(litOk (G.first+k) d.x && litOk (G.first+k) d.y)):=fun k d hd=>andOk_of hd
 have HLL:Hid (∀ d,latOk G d=litOk G.vars d.next):=fun d=>rfl
 generalize G.vars=n at *
 generalize G.first=F at *
 unfold GrS.cells at *
 clear g2' g3' g1' HNV HFV
 go_enter Try.func17,Try.ntmps17
 go_upto_region 1 with fail
 generalize hW:World.alloc w _=W
 have HB:Hid (Below w.heap.size w W):=by rw [←hW];exact (Below.refl _ _).alloc (Nat.le_refl _) _
 have hN:w.heap.size<W.heap.size:=by rw [←hW];simp
 have HX:Hid (BoxAt W w.heap.size S G):=by
  rw [←hW]
  exact ⟨by simp,by simp,by simp,by simp,by simp⟩
 have HAW:Hid (GrAt B W S G):=h.to (HB.out.mono hB)
 have hBW:B≤W.heap.size:=Nat.le_trans hB HB.out.size
 clear hW h
 have q0:=HX.out.c0
 have q1:=HX.out.c1
 have q2:=HX.out.c2
 have q3:=HX.out.c3
 go_wp2_with (first | (go_at_call 29;refine (VA.out _ _ HX.out).mono ?_;rintro e w2 ⟨rfl,nd,rfl⟩) | (go_at_call 30;refine (FA.out _ _ (HX.out.to HX.out.lt (Below.drewN (Below.refl _ _) _))).mono ?_;rintro e w2 ⟨rfl,nd2,rfl⟩))
 clear q0 q1 q2 q3
 go_loopw [46] (fun i' w'=>∃ (k:Nat),k≤G.ands.length∧i' = .int .i64 k∧Hid ((List.range k).all (andOk G)=true)∧Hid (Below W.heap.size W w')) (fun i' _=>G.ands.length - (intOf i').toNat)
 case atStart=>exact ⟨0,Nat.zero_le _,rfl,rfl,Below.drewN (Below.refl _ _) _⟩
 case round =>
  obtain ⟨k,hk,rfl,HA,HBr⟩:=hrel
  by_cases hlt:k<G.ands.length
  ·obtain ⟨d,hd⟩:=getElem_lt hlt
   obtain ⟨b,o,ea,hlb,hc⟩:=HAW.out.a.el hd
   have HAK:=hidden (HLA.out k d hd)
   have hbW:b<W.heap.size:=Nat.lt_of_lt_of_le hlb hBW
   have c0:wr.cell? ⟨b,o+k*2,none⟩=some (.int .i64 d.x):=(HBr.out.cell (p:=⟨b,o+k*2,none⟩) hbW).trans (hc 0 _ rfl)
   have c1:wr.cell? ⟨b,o+k*2+1,none⟩=some (.int .i64 d.y):=(HBr.out.cell (p:=⟨b,o+k*2+1,none⟩) hbW).trans (hc 1 _ rfl)
   have hltI:(k:Int)<(G.ands.length:Int):=by omega
   have hbr:b<wr.heap.size:=Nat.lt_of_lt_of_le hbW HBr.out.size
   obtain ⟨x,y⟩:=d
   simp only at c0 c1 HAK
   have e2:IntKind.i64.wrap ((k:Int)+1)=(k:Int)+1:=wrapI _ (by omega) (by omega)
   have e3:IntKind.i64.wrap (F+(k:Int))=F+(k:Int):=wrapI _ (by omega) (by omega)
   have IX:Hid (∀ w,Calls Try.prog 31 #[.int .i64 x,.int .i64 (F+(k:Int))] w fun e w'=>e = .returned (.bool (litOk (F+k) x))∧w'=w):=fun w=>isLiteral_any _ _ (by omega) (by omega) w
   have IY:Hid (∀ w,Calls Try.prog 31 #[.int .i64 y,.int .i64 (F+(k:Int))] w fun e w'=>e = .returned (.bool (litOk (F+k) y))∧w'=w):=fun w=>isLiteral_any _ _ (by omega) (by omega) w
   rw [ea]
   clear hd hc hlb ea
   generalize litOk (F+k) x=bx at *
   generalize litOk (F+k) y=bY at *
   cases bx
   ·have HF:Hid (r=false):=by
     show _=_
     rw [HR.out,range_false hlt (by rw [HAK.out];rfl)];rfl
    clear HR
    go_wp2_with fail
    generalize hW5:World.alloc wr _=w5
    have HB5:Hid (Below W.heap.size W w5):=by rw [←hW5];exact HBr.out.alloc HBr.out.size _
    have z0:w5.cell? ⟨wr.heap.size,0,none⟩=some (.int .i64 x):=by rw [←hW5];simp
    have z1:w5.cell? ⟨wr.heap.size,1,none⟩=some (.int .i64 y):=by rw [←hW5];simp
    clear hW5 HBr c0 c1
    generalize wr.heap.size=zb at *
    go_at_call 31
    refine (IX.out _).mono ?_
    rintro e w2 ⟨rfl,rfl⟩
    go_wp2_with fail
    go_ret
    exact ⟨ret_bool HF.out.symm,HB.out.trans (HB5.out.mono HB.out.size)⟩
   ·cases bY
    ·have HF:Hid (r=false):=by
      show _=_
      rw [HR.out,range_false hlt (by rw [HAK.out];rfl)];rfl
     clear HR
     go_wp2_with fail
     generalize hW5:World.alloc wr _=w5
     have HB5:Hid (Below W.heap.size W w5):=by rw [←hW5];exact HBr.out.alloc HBr.out.size _
     have z0:w5.cell? ⟨wr.heap.size,0,none⟩=some (.int .i64 x):=by rw [←hW5];simp
     have z1:w5.cell? ⟨wr.heap.size,1,none⟩=some (.int .i64 y):=by rw [←hW5];simp
     clear hW5 HBr c0 c1
     generalize wr.heap.size=zb at *
     go_at_call 31
     refine (IX.out _).mono ?_
     rintro e w2 ⟨rfl,rfl⟩
     go_wp2_with fail
     go_at_call 31
     refine (IY.out _).mono ?_
     rintro e w6 ⟨rfl,rfl⟩
     go_wp2_with fail
     go_ret
     exact ⟨ret_bool HF.out.symm,HB.out.trans (HB5.out.mono HB.out.size)⟩
    ·have HN1:Hid ((List.range (k+1)).all (andOk G)=true):=by
      show _=_
      rw [range_next,HA.out,HAK.out];rfl
     go_wp2_with fail
     generalize hW5:World.alloc wr _=w5
     have HB5:Hid (Below W.heap.size W w5):=by rw [←hW5];exact HBr.out.alloc HBr.out.size _
     have z0:w5.cell? ⟨wr.heap.size,0,none⟩=some (.int .i64 x):=by rw [←hW5];simp
     have z1:w5.cell? ⟨wr.heap.size,1,none⟩=some (.int .i64 y):=by rw [←hW5];simp
     clear hW5 HBr c0 c1
     generalize wr.heap.size=zb at *
     go_at_call 31
     refine (IX.out _).mono ?_
     rintro e w2 ⟨rfl,rfl⟩
     go_wp2_with fail
     go_at_call 31
     refine (IY.out _).mono ?_
     rintro e w6 ⟨rfl,rfl⟩
     go_wp2_with fail
     go_roundw
     case measure=>simp [intOf];omega
     case rel=>exact ⟨k+1,by omega,by simp,HN1.out,HB5.out⟩
  ·have hge:¬ ((k:Int)<(G.ands.length:Int)):=by omega
   have HA':Hid ((List.range G.ands.length).all (andOk G)=true):=by
    have:=HA.out
    rwa [show k=G.ands.length by omega] at this
   clear HA
   have IL:Hid (∀ l w,Calls Try.prog 31 #[.int .i64 l,.int .i64 n] w fun e w'=>e = .returned (.bool (litOk n l))∧w'=w):=fun l w=>isLiteral_any l n (by omega) (by omega) w
   have p1:wr.cell? ⟨w.heap.size,1,none⟩=some (.slice S.a1 G.lats.length S.c1):=(HBr.out.cell (p:=⟨w.heap.size,1,none⟩) hN).trans HX.out.c1
   have HB3:=hidden HBr.out
   clear HLA
   go_wp2_with fail
   clear p1 HBr
   go_loopw [71] (fun i' w'=>∃ (k:Nat),k≤G.lats.length∧i' = .int .i64 k∧Hid ((G.lats.take k).all (latOk G)=true)∧Hid (Below W.heap.size W w')) (fun i' _=>G.lats.length - (intOf i').toNat)
   case atStart=>exact ⟨0,Nat.zero_le _,rfl,rfl,HB3.out⟩
   case round =>
    obtain ⟨k2,hk2,rfl,HL,HBr⟩:=hrel
    by_cases hlt2:k2<G.lats.length
    ·obtain ⟨d,hd⟩:=getElem_lt hlt2
     obtain ⟨b,o,ea,hlb,hc⟩:=HAW.out.l.el hd
     have HD:=hidden hd
     have HXr:Hid (BoxAt wr w.heap.size S G):=HX.out.to hN HBr.out
     have q1:=HXr.out.c1
     have hbW:b<W.heap.size:=Nat.lt_of_lt_of_le hlb hBW
     have c0:wr.cell? ⟨b,o+k2*2,none⟩=some (.int .i64 d.next):=(HBr.out.cell (p:=⟨b,o+k2*2,none⟩) hbW).trans (hc 0 _ rfl)
     have hltI:(k2:Int)<(G.lats.length:Int):=by omega
     rw [ea] at q1
     have e2:IntKind.i64.wrap ((k2:Int)+1)=(k2:Int)+1:=wrapI _ (by omega) (by omega)
     have HLd:=hidden (HLL.out d)
     have IX:=hidden (IL.out d.next)
     generalize litOk n d.next=bx at *
     generalize d.next=x at *
     clear hd hc ea hlb
     cases bx
     ·have HF:Hid (r=false):=by
       show _=_
       rw [HR.out,show G.lats.all (latOk G)=false from List.all_eq_false.2 ⟨_,List.mem_of_getElem? HD.out,by rw [HLd.out];decide⟩,Bool.and_false];rfl
      clear HR
      go_wp2_with fail
      go_quiet (first | (go_at_call 29;exact Calls.quiet_of (VA.out _ _ (HXr.out.to HXr.out.lt (Below.drewN (Below.refl _ _) _)))) | (go_at_call 31;exact Calls.quiet_of_same (IX.out _)))
      go_wp2
      go_ret
      exact ⟨ret_bool HF.out.symm,HB.out.trans ((Below.drewN HBr.out _).mono HB.out.size)⟩
     ·have HN1:Hid ((G.lats.take (k2+1)).all (latOk G)=true):=by
       show _=_
       rw [all_next _ _ k2 _ HD.out,HL.out,HLd.out];rfl
      go_wp2_with fail
      go_quiet (first | (go_at_call 29;exact Calls.quiet_of (VA.out _ _ (HXr.out.to HXr.out.lt (Below.drewN (Below.refl _ _) _)))) | (go_at_call 31;exact Calls.quiet_of_same (IX.out _)))
      go_wp2
      go_roundw
      case measure=>simp [intOf];omega
      case rel=>exact ⟨k2+1,by omega,by simp,HN1.out,Below.drewN HBr.out _⟩
    ·have hge2:¬ ((k2:Int)<(G.lats.length:Int)):=by omega
     have HL':Hid (G.lats.all (latOk G)=true):=by
      have:=HL.out
      rwa [List.take_of_length_le (by omega)] at this
     clear HL
     have p3:wr.cell? ⟨w.heap.size,3,none⟩=some (.slice S.a3 G.outs.length S.c3):=(HBr.out.cell (p:=⟨w.heap.size,3,none⟩) hN).trans HX.out.c3
     have HB4:=hidden HBr.out
     go_wp2_with fail
     clear p3 HBr
     go_loopw [87] (fun i' w'=>∃ (k:Nat),k≤G.outs.length∧i' = .int .i64 k∧Hid ((G.outs.take k).all (litOk n)=true)∧Hid (Below W.heap.size W w')) (fun i' _=>G.outs.length - (intOf i').toNat)
     case atStart=>exact ⟨0,Nat.zero_le _,rfl,rfl,HB4.out⟩
     case round =>
      obtain ⟨k3,hk3,rfl,HO,HBo⟩:=hrel
      by_cases hlt3:k3<G.outs.length
      ·obtain ⟨x,hd⟩:=getElem_lt hlt3
       obtain ⟨b,o,ea,hlb,hc⟩:=HAW.out.o.el hd
       have HD:=hidden hd
       have HXr:Hid (BoxAt wr w.heap.size S G):=HX.out.to hN HBo.out
       have hbW:b<W.heap.size:=Nat.lt_of_lt_of_le hlb hBW
       have c0:wr.cell? ⟨b,o+k3,none⟩=some (.int .i64 x):=(HBo.out.cell (p:=⟨b,o+k3,none⟩) hbW).trans ((congrArg (fun m=>W.cell? ⟨b,o+m,none⟩) (Nat.mul_one k3).symm).trans (hc 0 _ rfl))
       have hltI:(k3:Int)<(G.outs.length:Int):=by omega
       have e2:IntKind.i64.wrap ((k3:Int)+1)=(k3:Int)+1:=wrapI _ (by omega) (by omega)
       have IX:=hidden (IL.out x)
       have HLx:∃ bx,Hid (litOk n x=bx):=⟨_,rfl⟩
       obtain ⟨bx,HLx⟩:=HLx
       rw [HLx.out] at IX
       rw [ea]
       clear hd hc ea hlb
       cases bx
       ·have HF:Hid (r=false):=by
         show _=_
         rw [HR.out,show G.outs.all (litOk n)=false from List.all_eq_false.2 ⟨_,List.mem_of_getElem? HD.out,by rw [HLx.out];decide⟩,Bool.and_false]
        clear HR
        go_wp2_with fail
        go_at_call 29
        refine (VA.out _ _ HXr.out).mono ?_
        rintro e w2 ⟨rfl,nd3,rfl⟩
        go_wp2_with fail
        go_at_call 31
        refine (IX.out _).mono ?_
        rintro e w2 ⟨rfl,rfl⟩
        go_wp2_with fail
        go_ret
        exact ⟨ret_bool HF.out.symm,HB.out.trans ((Below.drewN HBo.out _).mono HB.out.size)⟩
       ·have HN1:Hid ((G.outs.take (k3+1)).all (litOk n)=true):=by
         show _=_
         rw [all_next _ _ k3 _ HD.out,HO.out,HLx.out];rfl
        go_wp2_with fail
        go_at_call 29
        refine (VA.out _ _ HXr.out).mono ?_
        rintro e w2 ⟨rfl,nd3,rfl⟩
        go_wp2_with fail
        go_at_call 31
        refine (IX.out _).mono ?_
        rintro e w2 ⟨rfl,rfl⟩
        go_wp2_with fail
        go_roundw
        case measure=>simp [intOf];omega
        case rel=>exact ⟨k3+1,by omega,by simp,HN1.out,Below.drewN HBo.out _⟩
      ·have hge3:¬ ((k3:Int)<(G.outs.length:Int)):=by omega
       have HO':Hid (G.outs.all (litOk n)=true):=by
        have:=HO.out
        rwa [List.take_of_length_le (by omega)] at this
       have HF:Hid (r=true):=by show _=_;rw [HR.out,HA'.out,HL'.out,HO'.out];rfl
       clear HO HR
       go_wp2
       go_ret
       exact ⟨ret_bool HF.out.symm,HB.out.trans (HBo.out.mono HB.out.size)⟩
theorem valid_any (B:Nat) (w:World) (S:GrS) (G:GrD) (h:GrAt B w S G) (hB:B≤w.heap.size) :
  Calls Try.prog 17 #[.agg (S.cells G)] w fun e w'=>e = .returned (.bool (GrOk G))∧Below w.heap.size w w':=by
 by_cases hs:G.small
 ·refine valid_rest B w S G h hB hs _ ?_
  show _=_
  unfold GrOk;rw [decide_eq_true hs,Bool.true_and]
 ·have e:GrOk G=false:=by unfold GrOk;rw [decide_eq_false hs];rfl
  rw [e];exact valid_small w S G h.ll h.la hs
end Go.Proofs.Ytlaljeobdddegaa

namespace Go.Proofs.Ytlaljeobdddegaa
open Go.RowKit
def tinyG:GrD:=⟨2,[⟨8,true⟩],[⟨4,2⟩,⟨6,3⟩,⟨9,9⟩],[9,12]⟩
theorem rowAt_flat {B:Nat} {w:World} {b sz:Nat} {els:List (List Value)} (hb:b<B) (hs:∀ l,l ∈ els→l.length=sz) (h:∀ (m:Nat) (v:Value),els.flatten[m]?=some v→w.cell? ⟨b,m,none⟩=some v):RowAt B w (some ⟨b,0,none⟩) sz els:=by
 intro hne
 refine ⟨b,0,rfl,hb,fun i cs hi j x hx=>?_⟩
 rw [Nat.zero_add]
 apply h
 clear h
 induction els generalizing i with
 | nil=>simp at hi
 | cons l r ih =>
  have hl:=hs l List.mem_cons_self
  cases i with
  | zero =>
   simp at hi;subst hi
   have hj:=(List.getElem?_eq_some_iff.1 hx).1
   rw [List.flatten_cons,List.getElem?_append_left (by omega)]
   simpa using hx
  | succ i =>
   have hi':r[i]?=some cs:=by simpa using hi
   rw [List.flatten_cons,List.getElem?_append_right (by rw [hl,Nat.succ_mul];omega)]
   have:=ih (fun l hl=>hs l (List.mem_cons_of_mem _ hl)) (List.ne_nil_of_mem (List.mem_of_getElem? hi')) i hi'
   rw [hl]
   rw [show (i+1)*sz+j - sz=i*sz+j by rw [Nat.succ_mul];omega]
   exact this
theorem cell_new {w:World} {cs:Array Value} {t b j:Nat} (h:b=w.heap.size):(w.alloc (.cells cs t)).cell? ⟨b,j,none⟩=cs[j]?:=by
 subst h;simp
theorem rowAt_nil {B:Nat} {w:World} {a:Option Addr} {sz:Nat}:RowAt B w a sz []:=fun h=>absurd rfl h
set_option maxRecDepth 100000 in
set_option maxHeartbeats 8000000 in
theorem tiny_any (w:World) :
  Calls Try.prog 5 #[] w fun e w'=>∃ S,e = .returned (.agg (GrS.cells S tinyG))∧GrAt w'.heap.size w' S tinyG∧Below w.heap.size w w':=by
 go_enter Try.func5,Try.ntmps5
 go_wp2
 generalize hW:World.alloc _ _=W
 have HB:Hid (Below w.heap.size w W):=by
  rw [←hW]
  exact ((((Below.refl _ _).alloc (Nat.le_refl _) _ |>.alloc (by simp) _ |>.alloc (by simp;omega) _) |>.alloc (by simp;omega) _) |>.alloc (by simp;omega) _)
 have hs:W.heap.size=w.heap.size+5:=by rw [←hW];simp
 have z:∀ j,W.cell? ⟨w.heap.size,j,none⟩=(#[.int .i64 2,.slice (some ⟨w.heap.size+1+1,0,none⟩) 1 1,.slice (some ⟨w.heap.size+1+1+1,0,none⟩) 3 3,.slice (some ⟨w.heap.size+1+1+1+1,0,none⟩) 2 2]:Array Value)[j]?:=by intro j;rw [←hW,World.cell?_alloc_lt _ _ _ (by first | (simp;done) | (simp;omega)),World.cell?_alloc_lt _ _ _ (by first | (simp;done) | (simp;omega)),World.cell?_alloc_lt _ _ _ (by first | (simp;done) | (simp;omega)),World.cell?_alloc_lt _ _ _ (by first | (simp;done) | (simp;omega))];exact cell_new (by simp)
 have zl:∀ j,W.cell? ⟨w.heap.size+1+1,j,none⟩=(#[.int .i64 8,.bool true]:Array Value)[j]?:=by intro j;rw [←hW,World.cell?_alloc_lt _ _ _ (by first | (simp;done) | (simp;omega)),World.cell?_alloc_lt _ _ _ (by first | (simp;done) | (simp;omega))];exact cell_new (by simp)
 have za:∀ j,W.cell? ⟨w.heap.size+1+1+1,j,none⟩=(#[.int .i64 4,.int .i64 2,.int .i64 6,.int .i64 3,.int .i64 9,.int .i64 9]:Array Value)[j]?:=by intro j;rw [←hW,World.cell?_alloc_lt _ _ _ (by first | (simp;done) | (simp;omega))];exact cell_new (by simp)
 have zo:∀ j,W.cell? ⟨w.heap.size+1+1+1+1,j,none⟩=(#[.int .i64 9,.int .i64 12]:Array Value)[j]?:=by intro j;rw [←hW];exact cell_new (by simp)
 clear hW
 have z0:=z 0
 have z1:=z 1
 have z2:=z 2
 have z3:=z 3
 simp at z0 z1 z2 z3
 refine bodyPost_ret (v:=.agg #[.int .i64 2,.slice (some ⟨w.heap.size+1+1,0,none⟩) 1 1,.slice (some ⟨w.heap.size+1+1+1,0,none⟩) 3 3,.slice (some ⟨w.heap.size+1+1+1+1,0,none⟩) 2 2]) (by simp [results,Try.results5,go_sem, *]) rfl ?_
 refine ⟨⟨some ⟨w.heap.size+1+1,0,none⟩,1,some ⟨w.heap.size+1+1+1,0,none⟩,3,some ⟨w.heap.size+1+1+1+1,0,none⟩,2⟩,rfl,?_,HB.out⟩
 have f:∀ (b:Nat) (cs:Array Value) (els:List (List Value)),(∀ j,W.cell? ⟨b,j,none⟩=cs[j]?)→els.flatten=cs.toList→∀ (m:Nat) (v:Value),els.flatten[m]?=some v→W.cell? ⟨b,m,none⟩=some v:=by
  intro b cs els h1 h2 m v hv
  rw [h1 m,←Array.getElem?_toList,←h2];exact hv
 exact ⟨rowAt_flat (by omega) (by simp [tinyG,LatD.cells]) (f _ _ _ zl rfl),rowAt_flat (by omega) (by simp [tinyG,AndD.cells]) (f _ _ _ za rfl),rowAt_flat (by omega) (by simp [tinyG,intC]) (f _ _ _ zo rfl),by simp [tinyG,big],by simp [tinyG,big],by simp [tinyG,big]⟩
end Go.Proofs.Ytlaljeobdddegaa

namespace Go.Proofs.Ytlaljeobdddegaa
open Go.RowKit
def bV (b:Bool):Value:=.bool b
def bC (b:Bool):List Value:=[.bool b]
theorem add0 (g j:Nat):((⟨g,0,none⟩:Addr).add j)=⟨g,j,none⟩:=by unfold Addr.add;split <;> simp_all
theorem heap_new (w:World) (o:Obj):(w.alloc o).heap[w.heap.size]?=some o:=by unfold World.alloc;simp
theorem ownRow {α:Type} {g:α→Value} {w:World} {C:Nat} {e:TypeId} {v:Value} {n:Nat} {xs:List α} (h:w.ownsRow C e 1 v n (xs.map g)) :
  n=xs.length∧∃ aw cw,v = .slice aw n cw∧RowAt w.heap.size w aw 1 (xs.map fun x=>[g x]):=by
 have hl:n=xs.length:=by have:=h.1;simp at this;omega
 refine ⟨hl,?_⟩
 rcases h.2 with ⟨h0,h1⟩ | ⟨gg,cap,cur,hv,h1⟩
 ·refine ⟨none,0,by rw [h0,h1],fun he=>?_⟩
  exfalso;apply he;have:xs.length=0:=by omega
  rw [List.length_eq_zero_iff.1 this];rfl
 ·refine ⟨some ⟨gg,0,none⟩,cap,hv,fun _=>⟨gg,0,rfl,?_,?_⟩⟩
  ·exact (h.lt gg (by rw [hv];rfl)).2
  ·intro i cs hi j x hj
   have hc:=h.cells (g:=gg) (by rw [hv];rfl) i
   rw [List.getElem?_map] at hi
   cases hx:xs[i]? with
   | none=>rw [hx] at hi;cases hi
   | some y =>
    rw [hx] at hi
    have e:[g y]=cs:=by simpa using hi
    subst e
    cases j with
    | succ j=>simp at hj
    | zero =>
     have ex:g y=x:=by simpa using hj
     subst ex
     have:=hc (g y) (by rw [List.getElem?_map,hx];rfl)
     rw [add0] at this
     simpa using this
theorem grown_plain {V wr w5:World} (h:Below V.heap.size V wr) {o:Obj} {e:TypeId} {size n:Nat} {v:Value} {xs:List Value} (HO:wr.ownsRow V.heap.size e size v n xs) (hg:(wr.alloc o).grownBy w5 v.ownBlock):Below V.heap.size V w5 :=
 (h.alloc h.size o).grown hg (Nat.le_trans h.size (by simp)) (fun k hk=>(HO.lt k hk).1)
theorem own_below {w w':World} {B e size n:Nat} {v:Value} {xs:List Value} (h:w.ownsRow B e size v n xs) (hb:Below w.heap.size w w'):w'.ownsRow B e size v n xs :=
 h.kept (row:=none) ⟨hb.os,hb.tape,hb.output,hb.size,fun k hk _=>hb.block k hk⟩ (by
  cases hv:v.ownBlock with
  | none=>exact .inl rfl
  | some x=>exact .inr (by simp))
theorem own_mono {w:World} {C C' e size n:Nat} {v:Value} {xs:List Value} (h:w.ownsRow C e size v n xs) (hc:C'≤C):w.ownsRow C' e size v n xs:=by
 refine ⟨h.1,?_⟩
 rcases h.2 with hn | ⟨g,cap,cur,rfl,hg,rest⟩
 ·exact .inl hn
 ·exact .inr ⟨g,cap,cur,rfl,Nat.le_trans hc hg,rest⟩
theorem grown_refl (w:World) (row:Option Nat):w.grownBy w row:=⟨rfl,rfl,rfl,Nat.le_refl _,fun _ _ _=>rfl⟩
theorem grown_trans {a b c:World} {row:Option Nat} (h:a.grownBy b row) (h2:b.grownBy c row):a.grownBy c row :=
 ⟨h2.os.trans h.os,h2.tape.trans h.tape,h2.output.trans h.output,Nat.le_trans h.size h2.size,fun k hk hr=>(h2.block k (Nat.lt_of_lt_of_le hk h.size) hr).trans (h.block k hk hr)⟩
theorem below_grown {wc w':World} {row:Option Nat} {C:Nat} (hg:wc.grownBy w' row) (hC:C≤wc.heap.size) (hr:∀ k,row=some k→C≤k):Below C wc w' :=
 (Below.refl C wc).grown hg hC hr
theorem set_mid {α:Type} (a:List α) (x y:α) (r:List α):(a++x :: r).set a.length y=a++y :: r:=by
 induction a with
 | nil=>rfl
 | cons h t ih=>simp only [List.cons_append,List.length_cons,List.set_cons_succ,ih]
theorem set_next (a b:List Bool) (k:Nat) (y:Bool) (ha:a.length=k) (hb:k<b.length):((a++b.drop k).map bV).set k (.bool y)=(a++[y]++b.drop (k+1)).map bV:=by
 have:=set_mid (a.map bV) (bV b[k]) (.bool y) ((b.drop (k+1)).map bV)
 rw [List.length_map,ha] at this
 rw [List.drop_eq_getElem_cons hb,List.map_append,List.map_cons,this,List.map_append,List.map_append,List.append_assoc]
 rfl
theorem none_below {w w':World} (h:w.grownBy w' none):Below w.heap.size w w':=⟨h.os,h.tape,h.output,h.size,fun k hk=>h.block k hk (by simp)⟩
theorem info_bool0:(Try.prog.info? 4).map (fun i=>(i.zero,i.size,i.bytes))=some (some (.bool false),1,1):=by kernel_rfl
theorem info_bool:∃ i,Try.prog.info? 4=some i∧i.zero=some (.bool false)∧i.size=1∧i.bytes=1:=by
 have h:=info_bool0
 cases hi:Try.prog.info? 4 with
 | none=>rw [hi] at h;cases h
 | some i=>rw [hi] at h;simp at h;exact ⟨i,rfl,h.1,h.2.1,h.2.2⟩
theorem made_false (n:Nat):(madeCells (Value.bool false).cells (n*1)).toList=(List.replicate n false).map bV:=by
 rw [Nat.mul_one]
 apply List.ext_getElem?
 intro i
 by_cases h:i<n
 ·simp [madeCells,Value.cells,bV,h,Nat.mod_one]
 ·simp [madeCells,Value.cells,bV,h]
theorem rowB {B:Nat} {w:World} {a:Option Addr} {l:List Bool} (h:RowAt B w a 1 (l.map bC)) {i:Nat} {x:Bool} (hx:l[i]?=some x):∃ b o,a=some ⟨b,o,none⟩∧b<B∧w.cell? ⟨b,o+i,none⟩=some (.bool x):=by
 obtain ⟨b,o,ha,hlt,hc⟩:=h.el hx
 refine ⟨b,o,ha,hlt,?_⟩
 have:=hc 0 (.bool x) rfl
 simpa using this
theorem RowAt.intR {B:Nat} {w:World} {a:Option Addr} {l:List Int} (h:RowAt B w a 1 (l.map intC)) {i:Nat} {x:Int} (hx:l[i]?=some x):∃ b o,a=some ⟨b,o,none⟩∧b<B∧w.cell? ⟨b,o+i,none⟩=some (.int .i64 x):=by
 obtain ⟨b,o,ha,hlt,hc⟩:=h.el hx
 refine ⟨b,o,ha,hlt,?_⟩
 have:=hc 0 (.int .i64 x) rfl
 simpa using this
def litV (v:List Bool) (l:Int):Bool:=(v[(l / 2).toNat]?.getD false) != decide (l % 2=1)
def InV (v:List Bool) (l:Int):Prop:=0≤l∧l<2*(v.length:Int)
end Go.Proofs.Ytlaljeobdddegaa
