import Derived.Test.YtcbcenfjigcfkaaGreatDoorK02
set_option maxRecDepth 100000
set_option maxHeartbeats 40000000
namespace Go.Proofs.YtcbcenfjigcfkaaGreatDoor
open Go.RowKit
theorem akx (C:Nat) (w:World) (E M first:Nat) (hs:List Z) (u:Value) (n:Nat) (h:qg C w E M first hs u) (aU:first+hs.length<=134217728) (a:Int) (ad:0<=a∧a<2*((first:Int)+(hs.length:Int))) :
  Calls Tryz.prog 90 #[.pointer (some ⟨E,0,none⟩),.int .i64 a,.int .i64 a] w fun e B=>e = .returned (.int .i64 (bE first hs a a).2)∧(∃g7,qg C B E M first (bE first hs a a).1 g7∧PS u g7 n)∧Jv w B E M u.ownBlock:=by
 have cc:=K h;have z5:Hid (∀w,Calls Tryz.prog 97 #[.int .i64 a] w fun e B=>e = .returned (.int .i64 (bu a))∧B=w):=fun w=>K6 a (by omega) (by omega) w
 have ys:Hid (max a a=a):=by show _=_;omega
 have yr:Hid (min a a=a):=by show _=_;omega
 by_cases aI:a=0
 ·rw[P4 ys yr (.inl aI)];subst aI;go_enter Tryz.func90,Tryz.ntmps90
  go_wp2;go_quiet (fail)
  go_wp2;refine bodyPost_ret (v:= .int .i64 0) (by simp[results,Tryz.results90,go_sem]) rfl ⟨rfl,cc.same n ?_⟩;exact Below.drewN ((ax _ _).alloc (aL _) _) _
 have F:¬a=bu a:=by unfold bu;split <;> omega
 have Qy:(a==bu a)=false:=by simpa using F
 have kC:¬(a=0∨a=bu a):=fun e=>e.elim aI F
 rw[Ui ys yr kC (.inr rfl)];clear ys yr kC;have U3:(a==a)=true:=by simp
 by_cases O:a=1
 ·subst O;go_enter Tryz.func90,Tryz.ntmps90
  go_wp2;go_quiet ((go_at_call 97;exact Calls.quiet_of_same (z5 _)))
  go_wp2;refine bodyPost_ret (v:= .int .i64 1) (by simp[results,Tryz.results90,go_sem]) rfl ⟨rfl,cc.same n ?_⟩;exact Below.drewN ((ax _ _).alloc (aL _) _) _
 ·have U1:(a==1)=false:=by simpa using O
  go_enter Tryz.func90,Tryz.ntmps90
  go_wp2;go_quiet ((go_at_call 97;exact Calls.quiet_of_same (z5 _)))
  go_wp2;refine bodyPost_ret (v:= .int .i64 a) (by simp[results,Tryz.results90,go_sem]) rfl ⟨rfl,cc.same n ?_⟩;exact Below.drewN ((ax _ _).alloc (aL _) _) _
theorem akw (C:Nat) (w:World) (E M first:Nat) (hs:List Z) (u:Value) (n:Nat) (ag:n<=w.heap.size) (h:qg C w E M first hs u) (H:bI first hs) (aU:first+hs.length<=134217728) (a b:Int) (ad:0<=a∧a<2*((first:Int)+(hs.length:Int))) (D:0<=b∧b<2*((first:Int)+(hs.length:Int))) (h2:(bE first hs a b).1.length<=1048576) :
  Calls Tryz.prog 90 #[.pointer (some ⟨E,0,none⟩),.int .i64 a,.int .i64 b] w fun e B=>e = .returned (.int .i64 (bE first hs a b).2)∧(∃g7,qg C B E M first (bE first hs a b).1 g7∧PS u g7 n)∧Jv w B E M u.ownBlock:=by
 by_cases F:b<a
 ·exact abD C w E M first hs u n ag h H aU a b a b (if_neg (by omega)) (if_pos F) ad D h2 F
 by_cases O:a<b
 ·exact abD C w E M first hs u n ag h H aU a b b a (if_pos O) (if_neg (by omega)) D ad h2 O
 ·obtain rfl:a=b:=by omega
  exact akx C w E M first hs u n h aU a ad
theorem arJ (w:World) (first:Nat):Calls Tryz.prog 48 #[.int .i64 first] w fun e B=>e = .returned (.pointer (some ⟨w.heap.size+1,0,none⟩))∧qg w.heap.size B (w.heap.size+1) w.heap.size first [] (.slice none 0 0)∧V w B∧B.heap.size=w.heap.size+2:=by
 have h2:(Instr.makeMap 110 none).run Tryz.prog w = .ok (.map (some w.heap.size)) (w.alloc (.map #[] 0)):=by kernel_rfl
 go_enter Tryz.func48,Tryz.ntmps48
 go_wp2;refine bodyPost_ret (v:= .pointer (some ⟨w.heap.size+1,0,none⟩)) (by simp[results,Tryz.results48,go_sem]) rfl ⟨rfl,?_,((ax _ _).alloc (aL _) _).alloc (by simp) _,by simp⟩;generalize gV:w.alloc (.map #[] 0)=mA;have ad:mA.heap.size=w.heap.size+1:=by rw[<-gV];simp
 have ar:∀j,(mA.alloc (.cells #[.int .i64 (first:Int),.slice none 0 0,.map (some w.heap.size)] 112)).cell? ⟨w.heap.size+1,j,none⟩=(#[.int .i64 (first:Int),.slice none 0 0,.map (some w.heap.size)]:Array Value)[j]?:=fun j=>ja ad.symm
 refine⟨(ar 0).trans rfl,(ar 1).trans rfl,(ar 2).trans rfl,k8 _ _ _ _,⟨#[],0,?_,rfl,fun i d U=>by simp at U⟩,fun j=>?_,by simp[ad];omega,by simp[ad],by simp[ad];omega,by omega,(fun e=>by cases e),(fun e=>by cases e)⟩
 ·rw[heap_alloc_old _ _ (by omega),<-gV];exact h8 _ _
 ·have D:(mA.alloc (.cells #[.int .i64 (first:Int),.slice none 0 0,.map (some w.heap.size)] 112)).heap[w.heap.size+1]?=some (.cells #[.int .i64 (first:Int),.slice none 0 0,.map (some w.heap.size)] 112):=by rw[<-ad];exact h8 _ _
  simp[World.frozen?,D]
structure qG (w:World) (p:Nat) (c a:Int):Prop where
 lt:p<w.heap.size
 c0:w.cell? ⟨p,0,none⟩=some (.int .i64 c)
 c1:w.cell? ⟨p,1,none⟩=some (.int .i64 a)
theorem qG.to {w B:World} {p:Nat} {c a:Int} (h:qG w p c a) (D:V w B):qG B p c a :=
 ⟨bk h.lt D.size,(D.cell (p:=⟨p,0,none⟩) h.lt).trans h.c0,(D.cell (p:=⟨p,1,none⟩) h.lt).trans h.c1⟩
def fI (p:Nat):Ending:= .panicked [{v:= .iface 73 (.pointer (some ⟨p,0,none⟩)),recovered:=false}]
theorem So (c a:Int) (w:World) :
  Calls Tryz.prog 25 #[.int .i64 c,.int .i64 a] w fun e B=>e=fI w.heap.size∧qG B w.heap.size c a∧V w B:=by
 go_enter Tryz.func25,Tryz.ntmps25
 go_wp2;exact⟨rfl,rfl,⟨by simp,by simp,by simp⟩,(ax _ _).alloc (aL _) _⟩
theorem amV (C:Nat) (w:World) (E M first:Nat) (hs:List Z) (u:Value) (h:qg C w E M first hs u) (H:bI first hs) (aU:first+hs.length<=134217728) (a b:Int) (ad:0<=a∧a<2*((first:Int)+(hs.length:Int))) (D:0<=b∧b<2*((first:Int)+(hs.length:Int))) (oa:b<a) (kC:¬(b=0∨a=bu b)) (j3:¬(b=1∨a=b)) (ah:pm hs a b=none) (hl:hs.length=1048576) :
  Calls Tryz.prog 90 #[.pointer (some ⟨E,0,none⟩),.int .i64 a,.int .i64 b] w fun e B=>∃p,e=fI p∧qG B p 11 0∧V w B:=by
 have cc:=K h;have z5:Hid (∀w,Calls Tryz.prog 97 #[.int .i64 b] w fun e B=>e = .returned (.int .i64 (bu b))∧B=w):=fun w=>K6 b (by omega) (by omega) w
 have aI:¬b=0:=fun e=>kC (.inl e)
 have F:¬a=bu b:=fun e=>kC (.inr e)
 have O:¬b=1:=fun e=>j3 (.inl e)
 have aW:¬a=b:=fun e=>j3 (.inr e)
 have Qy:(a==bu b)=false:=by simpa using F
 have U1:(b==1)=false:=by simpa using O
 have U3:(a==b)=false:=by simpa using aW
 have lU:=h.c2;have aB:=h.lt;have Hp:∀n,(Instr.lookup 110 (.map (some M)) (.agg #[.int .i64 a,.int .i64 b]) true).run Tryz.prog ((w.alloc (.cells #[.int .i64 a,.int .i64 b] 79)).drewN n) = .ok (.tuple #[.int .i64 0,.bool false]) ((w.alloc (.cells #[.int .i64 a,.int .i64 b] 79)).drewN n):=fun n=>by
  rcases W9 H (by omega) ((h.to (Below.drewN ((ax _ _).alloc (aL _) _) n)).kn) a b (by omega) (by omega) with ⟨e,ak⟩ | ⟨j,e,ak⟩
  ·exact ak
  ·rw[ah] at e;cases e
 obtain⟨yS,yT,bb⟩:=XO h.ow;subst bb;have rA:=h.c0;have lF:=h.c1;have pq:((hs.length:Int)==1048576)=true:=by simp;omega
 clear kC h H ah j3 hl;go_enter Tryz.func90,Tryz.ntmps90
 go_wp2;go_quiet ((go_at_call 97;exact Calls.quiet_of_same (z5 _)))
 go_wp2;go_quiet (fail)
 go_wp2_with fail
 go_at_call 25;refine(So 11 0 _).mono ?_;rintro e w1 ⟨rfl,bq,hR⟩;have bD:Hid (V w w1):=by
  refine Below.trans ?_ (hR.mono ?_)
  ·first | exact Below.drewN ((ax _ _).alloc (aL _) _) _ | exact Below.drewN (Below.drewN ((ax _ _).alloc (aL _) _) _) _ | exact Below.drewN (Below.drewN (Below.drewN ((ax _ _).alloc (aL _) _) _) _) _
  ·simp
 have CV:Hid (qG w1 (w.heap.size+1) 11 0):=by
  have:=bq
  simp at this;exact this
 clear bq hR;unfold fI;go_wp2;exact⟨rfl,_,rfl,CV.out,bD⟩
theorem amW (C:Nat) (w:World) (E M first:Nat) (hs:List Z) (u:Value) (h:qg C w E M first hs u) (H:bI first hs) (aU:first+hs.length<=134217728) (a b:Int) (ad:0<=a∧a<2*((first:Int)+(hs.length:Int))) (D:0<=b∧b<2*((first:Int)+(hs.length:Int))) (oa:a<b) (kC:¬(a=0∨b=bu a)) (j3:¬(a=1∨b=a)) (ah:pm hs b a=none) (hl:hs.length=1048576) :
  Calls Tryz.prog 90 #[.pointer (some ⟨E,0,none⟩),.int .i64 a,.int .i64 b] w fun e B=>∃p,e=fI p∧qG B p 11 0∧V w B:=by
 have cc:=K h;have z5:Hid (∀w,Calls Tryz.prog 97 #[.int .i64 a] w fun e B=>e = .returned (.int .i64 (bu a))∧B=w):=fun w=>K6 a (by omega) (by omega) w
 have aI:¬a=0:=fun e=>kC (.inl e)
 have F:¬b=bu a:=fun e=>kC (.inr e)
 have O:¬a=1:=fun e=>j3 (.inl e)
 have aW:¬b=a:=fun e=>j3 (.inr e)
 have Qy:(b==bu a)=false:=by simpa using F
 have U1:(a==1)=false:=by simpa using O
 have U3:(b==a)=false:=by simpa using aW
 have lU:=h.c2;have aB:=h.lt;have Hp:∀n,(Instr.lookup 110 (.map (some M)) (.agg #[.int .i64 b,.int .i64 a]) true).run Tryz.prog ((w.alloc (.cells #[.int .i64 b,.int .i64 a] 79)).drewN n) = .ok (.tuple #[.int .i64 0,.bool false]) ((w.alloc (.cells #[.int .i64 b,.int .i64 a] 79)).drewN n):=fun n=>by
  rcases W9 H (by omega) ((h.to (Below.drewN ((ax _ _).alloc (aL _) _) n)).kn) b a (by omega) (by omega) with ⟨e,ak⟩ | ⟨j,e,ak⟩
  ·exact ak
  ·rw[ah] at e;cases e
 obtain⟨yS,yT,bb⟩:=XO h.ow;subst bb;have rA:=h.c0;have lF:=h.c1;have pq:((hs.length:Int)==1048576)=true:=by simp;omega
 clear kC h H ah j3 hl;go_enter Tryz.func90,Tryz.ntmps90
 go_wp2;go_quiet ((go_at_call 97;exact Calls.quiet_of_same (z5 _)))
 go_wp2;go_quiet (fail)
 go_wp2_with fail
 go_at_call 25;refine(So 11 0 _).mono ?_;rintro e w1 ⟨rfl,bq,hR⟩;have bD:Hid (V w w1):=by
  refine Below.trans ?_ (hR.mono ?_)
  ·first | exact Below.drewN ((ax _ _).alloc (aL _) _) _ | exact Below.drewN (Below.drewN ((ax _ _).alloc (aL _) _) _) _ | exact Below.drewN (Below.drewN (Below.drewN ((ax _ _).alloc (aL _) _) _) _) _
  ·simp
 have CV:Hid (qG w1 (w.heap.size+1) 11 0):=by
  have:=bq
  simp at this;exact this
 clear bq hR;unfold fI;go_wp2;exact⟨rfl,_,rfl,CV.out,bD⟩
end Go.Proofs.YtcbcenfjigcfkaaGreatDoor
