import Derived.Test.YtcbcenfjigcfkaaGreatDoorK04
set_option maxRecDepth 100000
set_option maxHeartbeats 40000000
namespace Go.Proofs.YtcbcenfjigcfkaaGreatDoor
open Go.RowKit
variable {q:Int}
theorem SP {x y:Int} (J:0<=x∧x<9223372036854775808) (aF:0<=y∧y<9223372036854775808):bits BinOp.xor IntKind.i64 x y=((x.toNat ^^^ y.toNat:Nat):Int):=by
 have h:=aia x.toNat y.toNat (by omega) (by omega);rw[show((x.toNat:Nat):Int)=x by omega,show((y.toNat:Nat):Int)=y by omega] at h;exact h
theorem act {x:Int} (J:0<=x):(bu x).toNat=x.toNat ^^^ 1:=by
 rw[afh];unfold bu;split <;> split <;> omega
theorem au8 {first:Nat} {hs:List Z} (ah:1<=first) {t:Int} (eg:bN first hs t):bN first hs (Br q t):=by
 unfold Br;split
 ·exact zu ah
 ·split
  ·exact qZ ah
  ·exact eg
theorem amk {first:Nat} {hs:List Z} (ah:1<=first) {o:Int} (aY:bN first hs o):bN first hs (Ah q o):=by
 unfold Ah;split
 ·exact qZ ah
 ·split
  ·exact zu ah
  ·exact aY
theorem au9 {t:Int} (aJ:0<=q∧q<1000000000000) (eg:0<=t∧t<1000000000000):((t==q)=true∧True∧bits BinOp.xor IntKind.i64 t (bu q)=Br q t)∨((t==q)=false∧(t==bu q)=true∧bits BinOp.xor IntKind.i64 t (bu q)=Br q t)∨((t==q)=false∧(t==bu q)=false∧Br q t=t):=by
 have ade:=Qp q aJ.1;unfold Br;by_cases F:t=q
 ·left
  refine⟨by simpa using F,trivial,?_⟩;rw[if_pos F,F,SP (by omega) (by omega),act aJ.1,<-Nat.xor_assoc,Nat.xor_self,Nat.zero_xor];rfl
 ·right
  by_cases O:t=bu q
  ·left
   refine⟨by simpa using F,by simpa using O,?_⟩;rw[if_neg F,if_pos O,O,SP (by omega) (by omega),Nat.xor_self];rfl
  ·right
   exact⟨by simpa using F,by simpa using O,by rw[if_neg F,if_neg O]⟩
theorem aml {o:Int} (aJ:0<=q∧q<1000000000000) (aY:0<=o∧o<1000000000000):((o==q)=true∧True∧bits BinOp.xor IntKind.i64 o q=Ah q o)∨((o==q)=false∧(o==bu q)=true∧bits BinOp.xor IntKind.i64 o q=Ah q o)∨((o==q)=false∧(o==bu q)=false∧Ah q o=o):=by
 have ade:=Qp q aJ.1;unfold Ah;by_cases F:o=q
 ·left
  refine⟨by simpa using F,trivial,?_⟩;rw[if_pos F,F,SP (by omega) (by omega),Nat.xor_self];rfl
 ·right
  by_cases O:o=bu q
  ·left
   refine⟨by simpa using F,by simpa using O,?_⟩;rw[if_neg F,if_pos O,O,SP (by omega) (by omega),act aJ.1,Nat.xor_comm,<-Nat.xor_assoc,Nat.xor_self,Nat.zero_xor];rfl
  ·right
   exact⟨by simpa using F,by simpa using O,by rw[if_neg F,if_neg O]⟩
theorem alw (C:Nat) (w:World) (E M first:Nat) (hs:List Z) (Ps:Nat->Prop) (h:bZ C w E M first hs Ps) (q t o:Int) (aJ:bN first hs q) (eg:bN first hs t) (aY:bN first hs o) :
  Calls Tryz.prog 93 #[.pointer (some ⟨E,0,none⟩),.int .i64 q,.int .i64 t,.int .i64 o] w (pi C w E M first Ps (BP first hs q t o) hz):=by
 have hl:=h.len;have lz:=K h;have Hs:=K (vK aJ hl.1 hl.2.2);have Ob:=au8 (q:=q) hl.2.1 eg;have RG:=amk (q:=q) hl.2.1 aY;have uy:=au9 (q:=q) (t:=t) (by unfold bN at aJ;omega) (by unfold bN at eg;omega);have Ib:=aml (q:=q) (o:=o) (by unfold bN at aJ;omega) (by unfold bN at aY;omega);unfold BP;generalize Br q t=T at *;generalize Ah q o=uj at *;have iY:=K aJ
 change Hid _ at Ob RG
 clear eg aY aJ h;have ch:=K hl.2.1;by_cases B3:T=uj
 ·rw[show Af first hs q T uj=(hs,T) by unfold Af;rw[if_pos B3]];have akS:(T==uj)=true:=by simpa using B3
  have lO:=K hl.1;clear B3 hl;rcases uy with ⟨b1,b2,J⟩ | ⟨b1,b2,J⟩ | ⟨b1,b2,rfl⟩ <;> rcases Ib with ⟨b3,b4,aF⟩ | ⟨b3,b4,aF⟩ | ⟨b3,b4,rfl⟩
  all_goals
   go_enter Tryz.func93,Tryz.ntmps93
   repeat (go_wp2_with fail;go_at_call 97;refine(Hs _).mono ?_;rintro e v ⟨rfl,L⟩;rw[L];clear L)
   go_wp2;go_ret
   exact .inl ⟨lO,rfl,lz.out,f3.refl _ _ _⟩
 have akS:(T==uj)=false:=by simpa using B3
 by_cases FD:T=1
 ·rw[show Af first hs q T uj=lJ first hs q uj by unfold Af;rw[if_neg B3,if_pos FD]];have qf:=K (IM C w E M first hs Ps lz q uj iY RG);generalize lJ first hs q uj=res at *;have akR:(T==1)=true:=by simpa using FD
  clear B3 FD hl;rcases uy with ⟨b1,b2,J⟩ | ⟨b1,b2,J⟩ | ⟨b1,b2,rfl⟩ <;> rcases Ib with ⟨b3,b4,aF⟩ | ⟨b3,b4,aF⟩ | ⟨b3,b4,rfl⟩
  all_goals
   go_enter Tryz.func93,Tryz.ntmps93
   repeat (go_wp2_with fail;go_at_call 97;refine(Hs _).mono ?_;rintro e v ⟨rfl,L⟩;rw[L];clear L)
   go_wp2_with fail
   go_at_call 95;refine qf.mono ?_;rintro e hJ (⟨ag,rfl,af,X⟩ | ⟨ag,⟨z,rfl,bq⟩,D⟩)
   ·have cl:=K (show _∧_∧_ from ⟨ag,af,X⟩);clear ag af X;unfold hz;go_wp2;go_ret
    exact .inl ⟨cl.1,rfl,cl.2.1,cl.2.2⟩
   ·have cl:=K (show _∧_∧_ from ⟨ag,bq,D⟩);clear ag bq D;unfold fI;go_wp2;exact⟨rfl,.inr ⟨cl.1,⟨z,rfl,cl.2.1⟩,cl.2.2⟩⟩
 have akR:(T==1)=false:=by simpa using FD
 by_cases Kt:uj=1
 ·rw[show Af first hs q T uj=lJ first hs (bu q) T by unfold Af;rw[if_neg B3,if_neg FD,if_pos Kt]];have qf:=K (IM C w E M first hs Ps lz (bu q) T iY.flip Ob);generalize lJ first hs (bu q) T=res at *;have akQ:(uj==1)=true:=by simpa using Kt
  generalize bu q=acu at *;clear B3 FD Kt hl;rcases uy with ⟨b1,b2,J⟩ | ⟨b1,b2,J⟩ | ⟨b1,b2,rfl⟩ <;> rcases Ib with ⟨b3,b4,aF⟩ | ⟨b3,b4,aF⟩ | ⟨b3,b4,rfl⟩
  all_goals
   go_enter Tryz.func93,Tryz.ntmps93
   repeat (go_wp2_with fail;go_at_call 97;refine(Hs _).mono ?_;rintro e v ⟨rfl,L⟩;rw[L];clear L)
   go_wp2_with fail
   go_at_call 95;refine qf.mono ?_;rintro e hJ (⟨ag,rfl,af,X⟩ | ⟨ag,⟨z,rfl,bq⟩,D⟩)
   ·have cl:=K (show _∧_∧_ from ⟨ag,af,X⟩);clear ag af X;unfold hz;go_wp2;go_ret
    exact .inl ⟨cl.1,rfl,cl.2.1,cl.2.2⟩
   ·have cl:=K (show _∧_∧_ from ⟨ag,bq,D⟩);clear ag bq D;unfold fI;go_wp2;exact⟨rfl,.inr ⟨cl.1,⟨z,rfl,cl.2.1⟩,cl.2.2⟩⟩
 have akQ:(uj==1)=false:=by simpa using Kt
 rw[show Af first hs q T uj=lJ first (bE first (bE first hs q T).1 (bu q) uj).1 (bE first hs q T).2 (bE first (bE first hs q T).1 (bu q) uj).2 by unfold Af;rw[if_neg B3,if_neg FD,if_neg Kt]];have qf:=K (sF C w E M first hs Ps lz q T iY Ob);have kv:=K (j2 ch lz.ok iY Ob);generalize bE first hs q T=p at *;have W3:=K (kv.gd.inL iY).flip;have tv:=K (kv.gd.inL RG);have jX:=K (j2 ch kv.gd.ok W3 tv);have s7:=K fun v (L:bZ C v E M first p.1 Ps)=>sF C v E M first p.1 Ps L _ _ W3 tv
 generalize bE first p.1 (bu q) uj=hI at *;have W2:=K (jX.gd.inL kv.inl);have LY:=K (AO ch jX.gd.ok W2 jX.inl);have GK:=K fun v (L:bZ C v E M first hI.1 Ps)=>IM C v E M first hI.1 Ps L _ _ W2 jX.inl
 generalize DK:lJ first hI.1 p.2 hI.2=res at *;clear DK W3 tv W2;generalize bu q=acu at *;clear B3 FD Kt hl iY Ob RG;rcases uy with ⟨b1,b2,J⟩ | ⟨b1,b2,J⟩ | ⟨b1,b2,rfl⟩ <;> rcases Ib with ⟨b3,b4,aF⟩ | ⟨b3,b4,aF⟩ | ⟨b3,b4,rfl⟩
 all_goals
  go_enter Tryz.func93,Tryz.ntmps93
  repeat (go_wp2_with fail;go_at_call 97;refine(Hs _).mono ?_;rintro e v ⟨rfl,L⟩;rw[L];clear L)
  go_wp2_with fail
  go_at_call 90;refine qf.mono ?_;rintro e hJ (⟨ag,rfl,af,X⟩ | ⟨ag,⟨z,rfl,bq⟩,D⟩)
  ·have cl:=K (show _∧_∧_ from ⟨ag,af,X⟩);clear ag af X;unfold hz
   repeat (go_wp2_with fail;go_at_call 97;refine(Hs _).mono ?_;rintro e v ⟨rfl,L⟩;rw[L];clear L)
   go_wp2_with fail
   go_at_call 90;refine(s7 _ cl.2.1).mono ?_;rintro e gZ (⟨ag,rfl,af,X⟩ | ⟨ag,⟨z,rfl,bq⟩,D⟩)
   ·have C2:=K (show _∧_∧_ from ⟨ag,af,X⟩);clear ag af X;unfold hz;go_wp2_with fail
    go_at_call 95;refine(GK _ C2.2.1).mono ?_;rintro e nC (⟨ag,rfl,af,X⟩ | ⟨ag,⟨z,rfl,bq⟩,D⟩)
    ·have Ha:=K (show _∧_∧_ from ⟨ag,af,X⟩);clear ag af X;unfold hz;go_wp2;go_ret
     exact .inl ⟨Ha.1,rfl,Ha.2.1,(cl.2.2.trans C2.2.2).trans Ha.2.2⟩
    ·have bd:=K (show _∧_∧_ from ⟨ag,bq,(cl.2.2.below.trans C2.2.2.below).trans D⟩);clear ag bq D;unfold fI;go_wp2;exact⟨rfl,.inr ⟨bd.1,⟨z,rfl,bd.2.1⟩,bd.2.2⟩⟩
   ·have bd:=K (show _∧_∧_ from ⟨bk ag LY.gd.len.1,bq,cl.2.2.below.trans D⟩);clear ag bq D;unfold fI;go_wp2;exact⟨rfl,.inr ⟨bd.1,⟨z,rfl,bd.2.1⟩,bd.2.2⟩⟩
  ·have bd:=K (show _∧_∧_ from ⟨bk ag (bL jX.gd.len.1 LY.gd.len.1),bq,D⟩);clear ag bq D;unfold fI;go_wp2;exact⟨rfl,.inr ⟨bd.1,⟨z,rfl,bd.2.1⟩,bd.2.2⟩⟩
end Go.Proofs.YtcbcenfjigcfkaaGreatDoor
