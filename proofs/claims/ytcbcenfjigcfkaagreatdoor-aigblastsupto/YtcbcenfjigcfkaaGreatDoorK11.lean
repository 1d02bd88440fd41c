import Derived.Test.YtcbcenfjigcfkaaGreatDoorK01
set_option maxRecDepth 100000
set_option maxHeartbeats 40000000
namespace Go.Proofs.YtcbcenfjigcfkaaGreatDoor
open Go.RowKit
variable {Y:Nat} {w:World}
theorem qD (x:Int) (aI:0<=x) (F:x<18446744073709551616):IntKind.u64.wrap x=x:=by
 rw[IntKind.wrap_u64];omega
def cL (x:Int):Bool:=decide (1<=x∧x<=32)
def ew (k:Int):Int :=
 if k=1∨k=30∨k=31 then 0
 else if k=5∨k=6∨(8<=k∧k<=11)∨k=32 then 1
 else if 12<=k∧k<=21 then 2
 else if k=22 then 3
 else if k=7 then -1 else -2
theorem LK (x:Int) (w:World) :
  Calls Tryz.prog 18 #[.int .i64 x] w fun e B=>e = .returned (.bool (cL x))∧B=w:=by
 have e:cL x=decide (1<=x∧x<=32):=rfl;by_cases F:(1:Int)<=x
 ·by_cases O:x<=32
  ·have U:cL x=true:=by rw[e];simp;omega
   rw[U];clear U e;go_enter Tryz.func18,Tryz.ntmps18
   go_wp2;go_ret
   exact⟨rfl,rfl⟩
  ·have U:cL x=false:=by rw[e];simp;omega
   rw[U];clear U e;go_enter Tryz.func18,Tryz.ntmps18
   go_wp2;go_ret
   exact⟨rfl,rfl⟩
 ·have U:cL x=false:=by rw[e];simp;omega
  rw[U];clear U e;go_enter Tryz.func18,Tryz.ntmps18
  go_wp2;go_ret
  exact⟨rfl,rfl⟩
theorem ae6 (n:Nat) (F:1<=n) (O:n<=32) (w:World) :
  Calls Tryz.prog 19 #[.int .i64 (n:Int)] w fun e B=>e = .returned (.int .u64 ((2^n:Nat) - 1:Int))∧B=w:=by
 go_enter Tryz.func19,Tryz.ntmps19
 go_wp2;go_ret
 refine⟨qB ?_,rfl⟩;have aE:(2:Nat)^n<=2^32:=q7 (by decide) O;have aJ:1<=(2:Nat)^n:=Nat.one_le_two_pow;have e:((2:Int)^n)=((2^n:Nat):Int):=by push_cast;rfl
 have bQ:IntKind.u64.wrap ((2^n:Nat):Int)=((2^n:Nat):Int):=qD _ (by omega) (by omega);rw[e,bQ,qD _ (by omega) (by omega)]
theorem LJ (k:Int):(k=1∨k=30∨k=31∨k=5∨k=6∨k=8∨k=9∨k=10∨k=11∨k=32∨k=12∨k=13∨k=14∨k=15∨k=16∨k=17∨k=18∨k=19∨k=20∨k=21∨k=22∨k=7) ∨
  (k≠1∧k≠30∧k≠31∧k≠5∧k≠6∧k≠8∧k≠9∧k≠10∧k≠11∧k≠32∧k≠12∧k≠13∧k≠14∧k≠15∧k≠16∧k≠17∧k≠18∧k≠19∧k≠20∧k≠21∧k≠22∧k≠7):=by omega
theorem YC (k:Int) (w:World) :
  Calls Tryz.prog 37 #[.int .i64 k] w fun e B=>e = .returned (.int .i64 (ew k))∧B=w:=by
 rcases LJ k with h | ⟨F,O,aW,cw,hY,mX,Dp,zc,B2,M5,UW,M6,UX,UY,nK,UZ,Qw,Qx,U0,acA,acB,Kl⟩
 ·rcases h with rfl | rfl | rfl | rfl | rfl | rfl | rfl | rfl | rfl | rfl | rfl | rfl | rfl | rfl | rfl | rfl | rfl | rfl | rfl | rfl | rfl | rfl
  all_goals
   go_enter Tryz.func37,Tryz.ntmps37
   go_wp2;go_ret
   exact⟨rfl,rfl⟩
 ·have U:ew k=-2:=by unfold ew;simp only[*];simp;omega
  rw[U];clear U;go_enter Tryz.func37,Tryz.ntmps37
  go_wp2;go_ret
  exact⟨rfl,rfl⟩
structure eO where
 kind:Int
 width:Int
 num:Int
 args:List Int
 aa:Option Addr
 ac:Nat
def eO.cells (d:eO):List Value:=[.int .i64 d.kind,.int .i64 d.width,.int .u64 d.num,.slice d.aa d.args.length d.ac]
structure l4 where
 width:Int
 init:Int
 next:Int
def l4.cells (d:l4):List Value:=[.int .i64 d.width,.int .u64 d.init,.int .i64 d.next]
structure hf where
 width:Int
 words:Int
def hf.cells (d:hf):List Value:=[.int .i64 d.width,.int .i64 d.words]
structure jz where
 mem:Int
 when_:Int
 addr:Int
 data:Int
def jz.cells (d:jz):List Value:=[.int .i64 d.mem,.int .i64 d.when_,.int .i64 d.addr,.int .i64 d.data]
structure aR where
 ins:List Int
 nodes:List eO
 regs:List l4
 mems:List hf
 wrs:List jz
 outs:List Int
structure dp where
 a0:Option Addr
 c0:Nat
 a1:Option Addr
 c1:Nat
 a2:Option Addr
 c2:Nat
 a3:Option Addr
 c3:Nat
 a4:Option Addr
 c4:Nat
 a5:Option Addr
 c5:Nat
def dp.cells (S:dp) (N:aR):Array Value:=#[.slice S.a0 N.ins.length S.c0,.slice S.a1 N.nodes.length S.c1,.slice S.a2 N.regs.length S.c2,.slice S.a3 N.mems.length S.c3,.slice S.a4 N.wrs.length S.c4,.slice S.a5 N.outs.length S.c5]
structure eM (Y:Nat) (w:World) (S:dp) (N:aR):Prop where
 i:cm Y w S.a0 1 (N.ins.map j4)
 n:cm Y w S.a1 4 (N.nodes.map eO.cells)
 r:cm Y w S.a2 3 (N.regs.map l4.cells)
 m:cm Y w S.a3 2 (N.mems.map hf.cells)
 wr:cm Y w S.a4 4 (N.wrs.map jz.cells)
 o:cm Y w S.a5 1 (N.outs.map j4)
 na:∀d,d∈N.nodes->cm Y w d.aa 1 (d.args.map j4)∧0<=d.num∧d.num<18446744073709551616∧d.args.length<cd
 ra:∀d,d∈N.regs->0<=d.init∧d.init<18446744073709551616
 li:N.ins.length<cd
 ln:N.nodes.length<cd
 lr:N.regs.length<cd
 lm:N.mems.length<cd
 lw:N.wrs.length<cd
 lo:N.outs.length<cd
theorem eM.to {B:World} {S:dp} {N:aR} (h:eM Y w S N) (D:Below Y w B):eM Y B S N :=
 ⟨h.i.to D,h.n.to D,h.r.to D,h.m.to D,h.wr.to D,h.o.to D,fun d U=>⟨(h.na d U).1.to D,(h.na d U).2⟩,h.ra,h.li,h.ln,h.lr,h.lm,h.lw,h.lo⟩
theorem eM.mono {EK:Nat} {S:dp} {N:aR} (h:eM Y w S N) (D:Y<=EK):eM EK w S N :=
 ⟨h.i.mono D,h.n.mono D,h.r.mono D,h.m.mono D,h.wr.mono D,h.o.mono D,fun d U=>⟨(h.na d U).1.mono D,(h.na d U).2⟩,h.ra,h.li,h.ln,h.lr,h.lm,h.lw,h.lo⟩
def j7 (N:aR) (i x:Int):Bool:=decide (0<=i∧∃d,N.nodes[i.toNat]?=some d∧d.width=x)
theorem ahZ (Y:Nat) (w:World) (S:dp) (N:aR) (h:eM Y w S N) (aM:Y<=w.heap.size) (i x:Int) :
  Calls Tryz.prog 21 #[.agg (S.cells N),.int .i64 i,.int .i64 x] w fun e B=>e = .returned (.bool (j7 N i x))∧V w B:=by
 unfold dp.cells;by_cases aI:(0:Int)<=i
 ·by_cases F:i<(N.nodes.length:Int)
  ·obtain⟨d,U⟩:∃d,N.nodes[i.toNat]?=some d:=⟨N.nodes[i.toNat]'(by omega),ct (by omega)⟩
   obtain⟨b,o,ad,aB,ar⟩:=h.n.el U;have c1:=ar 1 _ rfl;have D:b<w.heap.size:=bk aB aM;have e:j7 N i x=decide (d.width=x):=by unfold j7;rw[U];simp[aI]
   rw[e,ad];clear e ad ar h U;by_cases O:d.width=x
   ·rw[O] at c1;simp only[O];go_enter Tryz.func21,Tryz.ntmps21
    go_wp2;go_ret
    exact⟨rfl,(ax _ _).alloc (aL _) _⟩
   ·go_enter Tryz.func21,Tryz.ntmps21
    go_wp2;go_ret
    exact⟨by simp[O],(ax _ _).alloc (aL _) _⟩
  ·have e:j7 N i x=false:=by unfold j7;rw[oN (by omega)];simp
   rw[e];clear e;go_enter Tryz.func21,Tryz.ntmps21
   go_wp2;go_ret
   exact⟨rfl,(ax _ _).alloc (aL _) _⟩
 ·have e:j7 N i x=false:=by unfold j7;simp[aI]
  rw[e];clear e;go_enter Tryz.func21,Tryz.ntmps21
  go_wp2;go_ret
  exact⟨rfl,(ax _ _).alloc (aL _) _⟩
def bi (l:List Int) (k:Nat):Int:=l[k]?.getD 0
def hX (kind width num:Int) (ws:List Int):Bool :=
 if kind=5 then decide (num<bi ws 0∧num+width<=bi ws 0)
 else if kind=7 then decide (ws.sum=width)
 else if kind=8 then decide (bi ws 0=width)
 else if kind=9∨kind=10∨kind=11 then decide (width=1)
 else if 12<=kind∧kind<=17 then decide (bi ws 0=width∧bi ws 1=width)
 else if kind=18∨kind=19 then decide (bi ws 0=width)
 else if kind=20∨kind=21 then decide (bi ws 0=bi ws 1∧width=1)
 else if kind=22 then decide (bi ws 0=1∧bi ws 1=width∧bi ws 2=width)
 else if kind=1 then decide (num<=((2^width.toNat:Nat):Int) - 1)
 else true
theorem amD (k:Int):(k=5∨k=7∨k=8∨(k=9∨k=10∨k=11)∨(k=12∨k=13∨k=14∨k=15∨k=16∨k=17)∨(k=18∨k=19)∨(k=20∨k=21)∨k=22∨k=1) ∨
  (k≠5∧k≠7∧k≠8∧k≠9∧k≠10∧k≠11∧k≠12∧k≠13∧k≠14∧k≠15∧k≠16∧k≠17∧k≠18∧k≠19∧k≠20∧k≠21∧k≠22∧k≠1):=by omega
theorem cm.int {a:Option Addr} {xs:List Int} (h:cm Y w a 1 (xs.map j4)) {i:Nat} (hi:i<xs.length) :
  ∃b o,a=some ⟨b,o,none⟩∧b<Y∧∀(i:Nat),i<xs.length->w.cell? ⟨b,o+i,none⟩=some (.int .i64 (bi xs i)):=by
 obtain⟨b,o,ad,aB,ar⟩:=h (by intro e;have:xs=[]:=List.map_eq_nil_iff.1 e;rw[this] at hi;simp at hi);refine⟨b,o,ad,aB,fun j aT=>?_⟩
 have:=ar j [.int .i64 (bi xs j)] (by simp[j4,bi,List.getElem?_eq_getElem aT]) 0 _ rfl
 simpa using this
theorem acs (w:World) (kind width num:Int) (aa:Option Addr) (bv ac:Nat) (X:kind=8∨kind=18∨kind=19) (b o:Nat) (D:b<w.heap.size) (x:Int) (n ca:Nat) (ag:(0:Int)<(n:Int)) (c0:w.cell? ⟨b,o,none⟩=some (.int .i64 x)) :
  Calls Tryz.prog 38 #[.agg #[.int .i64 kind,.int .i64 width,.int .u64 num,.slice aa bv ac],.slice (some ⟨b,o,none⟩) n ca] w fun e B=>e = .returned (.bool (decide (x=width)))∧V w B:=by
 rcases X with rfl | rfl | rfl
 all_goals
  go_enter Tryz.func38,Tryz.ntmps38
  go_wp2;go_quiet (fail)
  go_wp2;go_ret
  exact⟨rfl,Below.drewN ((ax _ _).alloc (aL _) _) _⟩
theorem amL (w:World) (kind width num:Int) (aa:Option Addr) (bv ac:Nat) (X:kind=9∨kind=10∨kind=11) (ee:Option Addr) (n ca:Nat) :
  Calls Tryz.prog 38 #[.agg #[.int .i64 kind,.int .i64 width,.int .u64 num,.slice aa bv ac],.slice ee n ca] w fun e B=>e = .returned (.bool (decide (width=1)))∧V w B:=by
 rcases X with rfl | rfl | rfl
 all_goals
  go_enter Tryz.func38,Tryz.ntmps38
  go_wp2;go_ret
  exact⟨rfl,((ax _ _).alloc (aL _) _)⟩
theorem amH (w:World) (kind width num:Int) (aa:Option Addr) (bv ac:Nat) (F:kind≠5) (O:kind≠7) (aW:kind≠8) (cw:kind≠9) (hY:kind≠10) (mX:kind≠11) (Dp:kind≠12) (zc:kind≠13) (B2:kind≠14) (M5:kind≠15) (UW:kind≠16) (M6:kind≠17) (UX:kind≠18) (UY:kind≠19) (nK:kind≠20) (UZ:kind≠21) (Qw:kind≠22) (Qx:kind≠1) (ee:Option Addr) (n ca:Nat) :
  Calls Tryz.prog 38 #[.agg #[.int .i64 kind,.int .i64 width,.int .u64 num,.slice aa bv ac],.slice ee n ca] w fun e B=>e = .returned (.bool true)∧V w B:=by
 go_enter Tryz.func38,Tryz.ntmps38
 go_wp2;go_ret
 exact⟨rfl,((ax _ _).alloc (aL _) _)⟩
theorem amK (w:World) (kind width num:Int) (aa:Option Addr) (bv ac:Nat) (X:kind=12∨kind=13∨kind=14∨kind=15∨kind=16∨kind=17) (b o:Nat) (D:b<w.heap.size) (x y:Int) (n ca:Nat) (ag:(1:Int)<(n:Int)) (c0:w.cell? ⟨b,o,none⟩=some (.int .i64 x)) (c1:w.cell? ⟨b,o+1,none⟩=some (.int .i64 y)) :
  Calls Tryz.prog 38 #[.agg #[.int .i64 kind,.int .i64 width,.int .u64 num,.slice aa bv ac],.slice (some ⟨b,o,none⟩) n ca] w fun e B=>e = .returned (.bool (decide (x=width∧y=width)))∧V w B:=by
 by_cases h:x=width
 ·subst h;rcases X with rfl | rfl | rfl | rfl | rfl | rfl
  all_goals
   go_enter Tryz.func38,Tryz.ntmps38
   go_wp2;go_quiet (fail)
   go_wp2;go_ret
   exact⟨ia (by rw[iI];simp),Below.drewN ((ax _ _).alloc (aL _) _) _⟩
 ·have U:(x==width)=false:=by simp[h]
  rcases X with rfl | rfl | rfl | rfl | rfl | rfl
  all_goals
   go_enter Tryz.func38,Tryz.ntmps38
   go_wp2;go_quiet (fail)
   go_wp2;go_ret
   exact⟨ia (by rw[iI];simp[h]),Below.drewN ((ax _ _).alloc (aL _) _) _⟩
end Go.Proofs.YtcbcenfjigcfkaaGreatDoor
