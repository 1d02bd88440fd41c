import Derived.Test.YtlaljeobdddegaaJ02
import Derived.Deep.Cut
namespace Go.Proofs.Ytlaljeobdddegaa
open Go.RowKit
structure BoxAt (w:World) (p:Nat) (S:GrS) (G:GrD):Prop where
 lt:p<w.heap.size
 c0:w.cell? ⟨p,0,none⟩=some (.int .i64 G.ins)
 c1:w.cell? ⟨p,1,none⟩=some (.slice S.a1 G.lats.length S.c1)
 c2:w.cell? ⟨p,2,none⟩=some (.slice S.a2 G.ands.length S.c2)
 c3:w.cell? ⟨p,3,none⟩=some (.slice S.a3 G.outs.length S.c3)
theorem BoxAt.to {B:Nat} {w w':World} {p:Nat} {S:GrS} {G:GrD} (h:BoxAt w p S G) (hp:p<B) (hb:Below B w w'):BoxAt w' p S G :=
 ⟨Nat.lt_of_lt_of_le h.lt hb.size,(hb.cell (p:=⟨p,0,none⟩) hp).trans h.c0,(hb.cell (p:=⟨p,1,none⟩) hp).trans h.c1,(hb.cell (p:=⟨p,2,none⟩) hp).trans h.c2,(hb.cell (p:=⟨p,3,none⟩) hp).trans h.c3⟩
set_option maxHeartbeats 4000000 in
theorem firstGate_any (w:World) (p:Nat) (S:GrS) (G:GrD) (h:BoxAt w p S G) (h0:0≤G.ins) (h1:G.ins≤60000) (h2:G.lats.length<big) :
  Calls Try.prog 30 #[.pointer (some ⟨p,0,none⟩)] w fun e w'=>e = .returned (.int .i64 G.first)∧∃ n,w'=w.drewN n:=by
 simp only [big] at h2
 obtain ⟨lt,c0,c1,c2,c3⟩:=h
 go_enter Try.func30,Try.ntmps30
 go_wp2
 go_quiet (fail)
 go_wp2
 go_ret
 exact ⟨ret_int rfl,_,rfl⟩
set_option maxHeartbeats 4000000 in
theorem variables_any (w:World) (p:Nat) (S:GrS) (G:GrD) (h:BoxAt w p S G) (h0:0≤G.ins) (h1:G.ins≤60000) (h2:G.lats.length<big) (h3:G.ands.length<big) :
  Calls Try.prog 29 #[.pointer (some ⟨p,0,none⟩)] w fun e w'=>e = .returned (.int .i64 G.vars)∧∃ n,w'=w.drewN n:=by
 have FG:Hid (∀ w,BoxAt w p S G→Calls Try.prog 30 #[.pointer (some ⟨p,0,none⟩)] w fun e w'=>e = .returned (.int .i64 G.first)∧∃ n,w'=w.drewN n):=fun w hb=>firstGate_any w p S G hb h0 h1 h2
 simp only [big] at h2 h3
 have HH:=hidden h
 obtain ⟨lt,c0,c1,c2,c3⟩:=h
 have e1:G.vars=G.first+G.ands.length:=rfl
 have e2:G.first=1+G.ins+G.lats.length:=rfl
 rw [e1]
 generalize G.first=F at *
 go_enter Try.func29,Try.ntmps29
 go_wp2
 go_quiet ((go_at_call 30;exact Calls.quiet_of (FG.out _ (HH.out.to HH.out.lt (Below.drewN (Below.refl _ _) _)))))
 go_wp2
 go_ret
 exact ⟨ret_int (by omega),_,rfl⟩
set_option maxHeartbeats 4000000 in
theorem isLiteral_any (l n:Int) (h0:0≤n) (h1:n≤1000000) (w:World) :
  Calls Try.prog 31 #[.int .i64 l,.int .i64 n] w fun e w'=>e = .returned (.bool (litOk n l))∧w'=w:=by
 have e1:IntKind.i64.wrap (2*n)=2*n:=wrapI _ (by omega) (by omega)
 unfold litOk
 by_cases a0:0≤l
 ·go_enter Try.func31,Try.ntmps31
  go_wp2
  go_ret
  exact ⟨ret_bool (by rw [Bool.eq_iff_iff];simp [a0]),rfl⟩
 ·rw [decide_eq_false (by omega)]
  go_enter Try.func31,Try.ntmps31
  go_wp2
  go_ret
  exact ⟨rfl,rfl⟩
end Go.Proofs.Ytlaljeobdddegaa

namespace Go.Proofs.Ytlaljeobdddegaa
open Go.RowKit
set_option maxRecDepth 100000 in
set_option maxHeartbeats 16000000 in
theorem valid_small (w:World) (S:GrS) (G:GrD) (h2:G.lats.length<big) (h3:G.ands.length<big) (hs:¬ G.small) :
  Calls Try.prog 17 #[.agg (S.cells G)] w fun e w'=>e = .returned (.bool false)∧Below w.heap.size w w':=by
 have hcs:¬ 0≤G.ins∨(0≤G.ins∧¬ G.ins<60000)∨(0≤G.ins∧G.ins<60000∧¬ (G.ands.length:Int)<60000)∨(0≤G.ins∧G.ins<60000∧(G.ands.length:Int)<60000∧¬ (G.lats.length:Int)≤6000)∨(0≤G.ins∧G.ins<60000∧(G.ands.length:Int)<60000∧(G.lats.length:Int)≤6000∧¬ (G.outs.length:Int)≤60000)∨(0≤G.ins∧G.ins<60000∧(G.ands.length:Int)<60000∧(G.lats.length:Int)≤6000∧(G.outs.length:Int)≤60000∧¬ G.vars≤60000):=by
  unfold GrD.small at hs;omega
 have VA:Hid (0≤G.ins→G.ins<60000→∀ w p,BoxAt w p S G→Calls Try.prog 29 #[.pointer (some ⟨p,0,none⟩)] w fun e w'=>e = .returned (.int .i64 G.vars)∧∃ n,w'=w.drewN n):=fun a b w p hb=>variables_any w p S G hb a (by omega) h2 h3
 generalize G.vars=n at *
 clear hs h2 h3
 unfold GrS.cells at *
 go_enter Try.func17,Try.ntmps17
 go_upto_region 1 with fail
 generalize hW:World.alloc w _=W
 have HB:Hid (Below w.heap.size w W):=by rw [←hW];exact (Below.refl _ _).alloc (Nat.le_refl _) _
 have hN:w.heap.size<W.heap.size:=by rw [←hW];simp
 have HX:Hid (BoxAt W w.heap.size S G):=by
  rw [←hW]
  exact ⟨by simp,by simp,by simp,by simp,by simp⟩
 clear hW
 have q0:=HX.out.c0
 have q1:=HX.out.c1
 have q2:=HX.out.c2
 have q3:=HX.out.c3
 rcases hcs with g1 | ⟨g0,g1⟩ | ⟨g0,g1,g2⟩ | ⟨g0,g1,g2,g3⟩ | ⟨g0,g1,g2,g3,g4⟩ | ⟨g0,g1,g2,g3,g4,g5⟩
 ·have d0:decide (0≤G.ins)=false:=decide_eq_false g1
  go_wp2
  go_ret
  exact ⟨rfl,HB.out⟩
 ·have d0:decide (G.ins<60000)=false:=decide_eq_false g1
  go_wp2
  go_ret
  exact ⟨rfl,HB.out⟩
 ·have d0:decide ((G.ands.length:Int)<60000)=false:=decide_eq_false g2
  go_wp2
  go_ret
  exact ⟨rfl,HB.out⟩
 ·have d0:decide ((G.lats.length:Int)≤6000)=false:=decide_eq_false g3
  go_wp2
  go_ret
  exact ⟨rfl,HB.out⟩
 ·have d0:decide ((G.outs.length:Int)≤60000)=false:=decide_eq_false g4
  go_wp2
  go_ret
  exact ⟨rfl,HB.out⟩
 ·have d0:decide (n≤60000)=false:=decide_eq_false g5
  go_wp2_with (go_at_call 29;refine (VA.out g0 g1 _ _ HX.out).mono ?_;rintro e w2 ⟨rfl,nd,rfl⟩)
  go_ret
  exact ⟨rfl,HB.out.trans ((Below.drewN (Below.refl _ _) _).mono HB.out.size)⟩
end Go.Proofs.Ytlaljeobdddegaa
