import Derived.Test.YtcbcenfjigcfkaaGreatDoorK42
import Derived.Test.YtcbcenfjigcfkaaGreatDoorK43
set_option maxRecDepth 100000
set_option maxHeartbeats 40000000
namespace Go.Proofs.YtcbcenfjigcfkaaGreatDoor
open Go.RowKit
def q2 {α:Type} (l:List α) (f:α->Bool) (i:Nat):Bool:=(l[i]?.map f).getD true
theorem IQ {α:Type} {l:List α} {f:α->Bool} {i:Nat} {x:α} (h:l[i]?=some x):q2 l f i=f x:=by unfold q2;rw[h];rfl
theorem MN {α:Type} (l:List α) (f:α->Bool):(List.range l.length).all (q2 l f)=l.all f:=by
 rw[iI,k9,k9]
 constructor
 ·intro h x J;obtain⟨i,hi,rfl⟩:=List.getElem_of_mem J
  have:=h i (om.2 hi)
  rw[IQ (ct hi)] at this;exact this
 ·intro h i hi;have yC:=om.1 hi;rw[IQ (ct yC)];exact h _ (List.getElem_mem yC)
theorem aks {α:Type} (l:List α) (f g:α->Bool):l.all (fun x=>f x&&g x)=(l.all f&&l.all g):=by
 induction l with
 | nil=>rfl
 | cons a r aA=>simp only[List.all_cons,aA];cases f a <;> cases g a <;> simp
theorem avN (Y:Nat) (w:World) (a7:Nat) (S:dp) (N:aR) (h:mn Y w a7 S N) (k:Nat) (X:k<N.ins.length) :
  Calls Tryz.prog 40 #[.int .i64 k,.pointer (some ⟨a7,0,none⟩)] w fun e B=>e = .returned (.bool (q2 N.ins cL k))∧V w B:=by
 obtain⟨b,o,bQ,D,ar⟩:=h.net.i.int X;have es:=ar k X;have Q6:(k:Int)<(N.ins.length:Int):=by omega
 have q:w.cell? ⟨a7,0,none⟩=some (.slice S.a0 N.ins.length S.c0):=h.cells 0;rw[bQ] at q;rw[IQ (vr X)];generalize bi N.ins k=x at *;have j1:Hid (∀w,Calls Tryz.prog 41 #[.int .i64 x] w fun e B=>e = .returned (.bool (cL x))∧B=w):=fun w=>RM x w
 generalize cL x=aQ at *;clear h ar bQ X;go_enter Tryz.func40,Tryz.ntmps40
 go_wp2_with (go_at_call 41;refine(j1 _).mono ?_;rintro e B ⟨rfl,rfl⟩)
 go_ret
 exact⟨rfl,ax _ _⟩
theorem avO (Y:Nat) (w:World) (a7:Nat) (S:dp) (N:aR) (h:mn Y w a7 S N) (aM:Y<=w.heap.size) (kI:Nat) (bb:w.cell? ⟨kI,0,none⟩=some (.pointer (some ⟨a7,0,none⟩))) (DN:kI<w.heap.size) (k:Nat) (X:k<N.outs.length) :
  Calls Tryz.prog 46 #[.int .i64 k,.pointer (some ⟨kI,0,none⟩),.pointer (some ⟨a7,0,none⟩)] w fun e B=>e = .returned (.bool (q2 N.outs (mO N) k))∧V w B:=by
 obtain⟨b,o,bQ,D,ar⟩:=h.net.o.int X;have es:=ar k X;have Q6:(k:Int)<(N.outs.length:Int):=by omega
 have q:w.cell? ⟨a7,5,none⟩=some (.slice S.a5 N.outs.length S.c5):=h.cells 5;have xx:a7<w.heap.size:=bk h.lt aM;have xu:b<w.heap.size:=bk D aM;rw[bQ] at q;rw[IQ (vr X)];generalize bi N.outs k=x at *;have IN:Hid (∀B,V w B->Calls Tryz.prog 47 #[iF a7,.int .i64 x] B fun e bs=>e = .returned (.bool (mO N x))∧V B bs):=fun B aV=>W1 Y B a7 S N (h.to (aV.mono aM)) (bL aM aV.size) x
 unfold iF at *;generalize mO N x=aQ at *;clear h ar bQ X;go_enter Tryz.func46,Tryz.ntmps46
 go_wp2_with fail
 refine mR ?_;refine ih (S:=(fun B=>V w B∧(∀bw o,bw<w.heap.size->B.cell? ⟨bw,o,none⟩=w.cell? ⟨bw,o,none⟩))) (by kernel_rfl) (by(first | assumption | exact gl (ax _ _) | exact gl (ax _ _).drew | exact lL (by assumption) (by assumption))) (fun ii=>?_);refine R 0 ?_;refine R 1 ?_;refine R 2 ?_;refine R 3 ?_;refine R 4 ?_;refine R 5 ?_;refine rd 6 fun aj W=>?_
 (try simp only[bf,bg,bh]);go_simp;go_at_call 47;refine(IN _ (And.left (by assumption))).mono ?_;rintro e w2 ⟨rfl,bH⟩;go_wp2_with fail
 refine W.out _ _ (by(first | assumption | exact gl (ax _ _) | exact gl (ax _ _).drew | exact lL (by assumption) (by assumption))) (fun oC=>?_);clear W aj;try simp only[Act.put,mP,mh,mi]
 refine R 7 ?_;refine gn (by kernel_rfl) ?_ _;refine j8 ?_;have cg:Hid (V w _):=And.left (by assumption);go_wp2_with fail
 go_ret
 exact⟨rfl,cg⟩
theorem aoR (p:Nat->Bool) (n:Nat) (ag:n<cd) (I:World) (v:Value) (ch:Hid (∀i,i<n->(∀j,j<i->p j=true)->∀B,V I B->Calls Tryz.prog 40 #[.int .i64 i,v] B fun e bs=>e = .returned (.bool (p i))∧V B bs)) :
  Calls Tryz.prog 39 #[.int .i64 n,.func (.func 40) #[] #[v]] I fun e B=>e = .returned (.bool ((List.range n).all p))∧V I B:=by
 obtain⟨r,bR⟩:∃r,Hid ((List.range n).all p=r):=⟨_,rfl⟩
 rw[bR.out];simp only[cd] at ag;go_enter Tryz.func39,Tryz.ntmps39
 go_wp2_with fail
 go_loopw [7] (fun aq B=>∃(k:Nat),k<=n∧aq = .int .i64 k∧Hid (∀j,j<k->p j=true)∧Hid (V I B)) (fun aq _=>n - (intOf aq).toNat)
 case atStart=>exact⟨0,cE _,rfl,fun j aT=>absurd aT (Nat.not_lt_zero j),ax _ _⟩
 case round =>
  obtain⟨k,X,rfl,f5,au⟩:=hrel;by_cases aB:k<n
  ·have C:=K (ch k aB f5 _ au);have fa:(k:Int)<(n:Int):=by omega
   have aS:=bF ((k:Int)+1);have cl:=K (show p k=p k from rfl);obtain⟨b,kQ⟩:∃b,Hid (p k=b):=⟨_,rfl⟩
   rw[kQ.out] at C;clear cl;cases b
   ·have e:r=false:=by
     rw[<-bR.out];cases ak:(List.range n).all p with
     | false=>rfl
     | true=>have:=k9.1 ak k (om.2 aB);rw[kQ.out] at this;cases this
    subst e;clear bR kQ f5;go_wp2_with (go_at_call 40;refine C.mono ?_;rintro e w2 ⟨rfl,bH⟩)
    go_ret
    exact⟨rfl,au.trans (bH.mono au.size)⟩
   ·have nc:Hid (∀j,j<k+1->p j=true):=fun j aT=>by
     rcases Nat.lt_succ_iff_lt_or_eq.1 aT with h | h
     ·exact f5 j h
     ·subst h;exact kQ
    clear kQ f5;go_wp2_with (go_at_call 40;refine C.mono ?_;rintro e w2 ⟨rfl,bH⟩)
    go_roundw
    case measure=>simp[intOf];omega
    exact⟨k+1,by omega,by simp,nc.out,au.trans (bH.mono au.size)⟩
  ·have cQ:¬((k:Int)<(n:Int)):=by omega
   have e:r=true:=by
    rw[<-bR.out];exact k9.2 fun j aT=>f5 j (by have:=om.1 aT;omega)
   subst e;clear bR f5;go_wp2;go_ret
   exact⟨rfl,au⟩
theorem aoS (p:Nat->Bool) (n:Nat) (ag:n<cd) (I:World) (v:Value) (ch:Hid (∀i,i<n->(∀j,j<i->p j=true)->∀B,V I B->Calls Tryz.prog 42 #[v,.int .i64 i] B fun e bs=>e = .returned (.bool (p i))∧V B bs)) :
  Calls Tryz.prog 39 #[.int .i64 n,.func (.func 42) #[v] #[]] I fun e B=>e = .returned (.bool ((List.range n).all p))∧V I B:=by
 obtain⟨r,bR⟩:∃r,Hid ((List.range n).all p=r):=⟨_,rfl⟩
 rw[bR.out];simp only[cd] at ag;go_enter Tryz.func39,Tryz.ntmps39
 go_wp2_with fail
 go_loopw [7] (fun aq B=>∃(k:Nat),k<=n∧aq = .int .i64 k∧Hid (∀j,j<k->p j=true)∧Hid (V I B)) (fun aq _=>n - (intOf aq).toNat)
 case atStart=>exact⟨0,cE _,rfl,fun j aT=>absurd aT (Nat.not_lt_zero j),ax _ _⟩
 case round =>
  obtain⟨k,X,rfl,f5,au⟩:=hrel;by_cases aB:k<n
  ·have C:=K (ch k aB f5 _ au);have fa:(k:Int)<(n:Int):=by omega
   have aS:=bF ((k:Int)+1);have cl:=K (show p k=p k from rfl);obtain⟨b,kQ⟩:∃b,Hid (p k=b):=⟨_,rfl⟩
   rw[kQ.out] at C;clear cl;cases b
   ·have e:r=false:=by
     rw[<-bR.out];cases ak:(List.range n).all p with
     | false=>rfl
     | true=>have:=k9.1 ak k (om.2 aB);rw[kQ.out] at this;cases this
    subst e;clear bR kQ f5;go_wp2_with (go_at_call 42;refine C.mono ?_;rintro e w2 ⟨rfl,bH⟩)
    go_ret
    exact⟨rfl,au.trans (bH.mono au.size)⟩
   ·have nc:Hid (∀j,j<k+1->p j=true):=fun j aT=>by
     rcases Nat.lt_succ_iff_lt_or_eq.1 aT with h | h
     ·exact f5 j h
     ·subst h;exact kQ
    clear kQ f5;go_wp2_with (go_at_call 42;refine C.mono ?_;rintro e w2 ⟨rfl,bH⟩)
    go_roundw
    case measure=>simp[intOf];omega
    exact⟨k+1,by omega,by simp,nc.out,au.trans (bH.mono au.size)⟩
  ·have cQ:¬((k:Int)<(n:Int)):=by omega
   have e:r=true:=by
    rw[<-bR.out];exact k9.2 fun j aT=>f5 j (by have:=om.1 aT;omega)
   subst e;clear bR f5;go_wp2;go_ret
   exact⟨rfl,au⟩
theorem aoT (p:Nat->Bool) (n:Nat) (ag:n<cd) (I:World) (v:Value) (ch:Hid (∀i,i<n->(∀j,j<i->p j=true)->∀B,V I B->Calls Tryz.prog 43 #[v,.int .i64 i] B fun e bs=>e = .returned (.bool (p i))∧V B bs)) :
  Calls Tryz.prog 39 #[.int .i64 n,.func (.func 43) #[v] #[]] I fun e B=>e = .returned (.bool ((List.range n).all p))∧V I B:=by
 obtain⟨r,bR⟩:∃r,Hid ((List.range n).all p=r):=⟨_,rfl⟩
 rw[bR.out];simp only[cd] at ag;go_enter Tryz.func39,Tryz.ntmps39
 go_wp2_with fail
 go_loopw [7] (fun aq B=>∃(k:Nat),k<=n∧aq = .int .i64 k∧Hid (∀j,j<k->p j=true)∧Hid (V I B)) (fun aq _=>n - (intOf aq).toNat)
 case atStart=>exact⟨0,cE _,rfl,fun j aT=>absurd aT (Nat.not_lt_zero j),ax _ _⟩
 case round =>
  obtain⟨k,X,rfl,f5,au⟩:=hrel;by_cases aB:k<n
  ·have C:=K (ch k aB f5 _ au);have fa:(k:Int)<(n:Int):=by omega
   have aS:=bF ((k:Int)+1);have cl:=K (show p k=p k from rfl);obtain⟨b,kQ⟩:∃b,Hid (p k=b):=⟨_,rfl⟩
   rw[kQ.out] at C;clear cl;cases b
   ·have e:r=false:=by
     rw[<-bR.out];cases ak:(List.range n).all p with
     | false=>rfl
     | true=>have:=k9.1 ak k (om.2 aB);rw[kQ.out] at this;cases this
    subst e;clear bR kQ f5;go_wp2_with (go_at_call 43;refine C.mono ?_;rintro e w2 ⟨rfl,bH⟩)
    go_ret
    exact⟨rfl,au.trans (bH.mono au.size)⟩
   ·have nc:Hid (∀j,j<k+1->p j=true):=fun j aT=>by
     rcases Nat.lt_succ_iff_lt_or_eq.1 aT with h | h
     ·exact f5 j h
     ·subst h;exact kQ
    clear kQ f5;go_wp2_with (go_at_call 43;refine C.mono ?_;rintro e w2 ⟨rfl,bH⟩)
    go_roundw
    case measure=>simp[intOf];omega
    exact⟨k+1,by omega,by simp,nc.out,au.trans (bH.mono au.size)⟩
  ·have cQ:¬((k:Int)<(n:Int)):=by omega
   have e:r=true:=by
    rw[<-bR.out];exact k9.2 fun j aT=>f5 j (by have:=om.1 aT;omega)
   subst e;clear bR f5;go_wp2;go_ret
   exact⟨rfl,au⟩
theorem aoV (p:Nat->Bool) (n:Nat) (ag:n<cd) (I:World) (v:Value) (ch:Hid (∀i,i<n->(∀j,j<i->p j=true)->∀B,V I B->Calls Tryz.prog 44 #[v,.int .i64 i] B fun e bs=>e = .returned (.bool (p i))∧V B bs)) :
  Calls Tryz.prog 39 #[.int .i64 n,.func (.func 44) #[v] #[]] I fun e B=>e = .returned (.bool ((List.range n).all p))∧V I B:=by
 obtain⟨r,bR⟩:∃r,Hid ((List.range n).all p=r):=⟨_,rfl⟩
 rw[bR.out];simp only[cd] at ag;go_enter Tryz.func39,Tryz.ntmps39
 go_wp2_with fail
 go_loopw [7] (fun aq B=>∃(k:Nat),k<=n∧aq = .int .i64 k∧Hid (∀j,j<k->p j=true)∧Hid (V I B)) (fun aq _=>n - (intOf aq).toNat)
 case atStart=>exact⟨0,cE _,rfl,fun j aT=>absurd aT (Nat.not_lt_zero j),ax _ _⟩
 case round =>
  obtain⟨k,X,rfl,f5,au⟩:=hrel;by_cases aB:k<n
  ·have C:=K (ch k aB f5 _ au);have fa:(k:Int)<(n:Int):=by omega
   have aS:=bF ((k:Int)+1);have cl:=K (show p k=p k from rfl);obtain⟨b,kQ⟩:∃b,Hid (p k=b):=⟨_,rfl⟩
   rw[kQ.out] at C;clear cl;cases b
   ·have e:r=false:=by
     rw[<-bR.out];cases ak:(List.range n).all p with
     | false=>rfl
     | true=>have:=k9.1 ak k (om.2 aB);rw[kQ.out] at this;cases this
    subst e;clear bR kQ f5;go_wp2_with (go_at_call 44;refine C.mono ?_;rintro e w2 ⟨rfl,bH⟩)
    go_ret
    exact⟨rfl,au.trans (bH.mono au.size)⟩
   ·have nc:Hid (∀j,j<k+1->p j=true):=fun j aT=>by
     rcases Nat.lt_succ_iff_lt_or_eq.1 aT with h | h
     ·exact f5 j h
     ·subst h;exact kQ
    clear kQ f5;go_wp2_with (go_at_call 44;refine C.mono ?_;rintro e w2 ⟨rfl,bH⟩)
    go_roundw
    case measure=>simp[intOf];omega
    exact⟨k+1,by omega,by simp,nc.out,au.trans (bH.mono au.size)⟩
  ·have cQ:¬((k:Int)<(n:Int)):=by omega
   have e:r=true:=by
    rw[<-bR.out];exact k9.2 fun j aT=>f5 j (by have:=om.1 aT;omega)
   subst e;clear bR f5;go_wp2;go_ret
   exact⟨rfl,au⟩
theorem aoW (p:Nat->Bool) (n:Nat) (ag:n<cd) (I:World) (v:Value) (ch:Hid (∀i,i<n->(∀j,j<i->p j=true)->∀B,V I B->Calls Tryz.prog 45 #[v,.int .i64 i] B fun e bs=>e = .returned (.bool (p i))∧V B bs)) :
  Calls Tryz.prog 39 #[.int .i64 n,.func (.func 45) #[v] #[]] I fun e B=>e = .returned (.bool ((List.range n).all p))∧V I B:=by
 obtain⟨r,bR⟩:∃r,Hid ((List.range n).all p=r):=⟨_,rfl⟩
 rw[bR.out];simp only[cd] at ag;go_enter Tryz.func39,Tryz.ntmps39
 go_wp2_with fail
 go_loopw [7] (fun aq B=>∃(k:Nat),k<=n∧aq = .int .i64 k∧Hid (∀j,j<k->p j=true)∧Hid (V I B)) (fun aq _=>n - (intOf aq).toNat)
 case atStart=>exact⟨0,cE _,rfl,fun j aT=>absurd aT (Nat.not_lt_zero j),ax _ _⟩
 case round =>
  obtain⟨k,X,rfl,f5,au⟩:=hrel;by_cases aB:k<n
  ·have C:=K (ch k aB f5 _ au);have fa:(k:Int)<(n:Int):=by omega
   have aS:=bF ((k:Int)+1);have cl:=K (show p k=p k from rfl);obtain⟨b,kQ⟩:∃b,Hid (p k=b):=⟨_,rfl⟩
   rw[kQ.out] at C;clear cl;cases b
   ·have e:r=false:=by
     rw[<-bR.out];cases ak:(List.range n).all p with
     | false=>rfl
     | true=>have:=k9.1 ak k (om.2 aB);rw[kQ.out] at this;cases this
    subst e;clear bR kQ f5;go_wp2_with (go_at_call 45;refine C.mono ?_;rintro e w2 ⟨rfl,bH⟩)
    go_ret
    exact⟨rfl,au.trans (bH.mono au.size)⟩
   ·have nc:Hid (∀j,j<k+1->p j=true):=fun j aT=>by
     rcases Nat.lt_succ_iff_lt_or_eq.1 aT with h | h
     ·exact f5 j h
     ·subst h;exact kQ
    clear kQ f5;go_wp2_with (go_at_call 45;refine C.mono ?_;rintro e w2 ⟨rfl,bH⟩)
    go_roundw
    case measure=>simp[intOf];omega
    exact⟨k+1,by omega,by simp,nc.out,au.trans (bH.mono au.size)⟩
  ·have cQ:¬((k:Int)<(n:Int)):=by omega
   have e:r=true:=by
    rw[<-bR.out];exact k9.2 fun j aT=>f5 j (by have:=om.1 aT;omega)
   subst e;clear bR f5;go_wp2;go_ret
   exact⟨rfl,au⟩
theorem aoU (p:Nat->Bool) (n:Nat) (ag:n<cd) (I:World) (v u:Value) (ch:Hid (∀i,i<n->(∀j,j<i->p j=true)->∀B,V I B->Calls Tryz.prog 46 #[.int .i64 i,v,u] B fun e bs=>e = .returned (.bool (p i))∧V B bs)) :
  Calls Tryz.prog 39 #[.int .i64 n,.func (.func 46) #[] #[v,u]] I fun e B=>e = .returned (.bool ((List.range n).all p))∧V I B:=by
 obtain⟨r,bR⟩:∃r,Hid ((List.range n).all p=r):=⟨_,rfl⟩
 rw[bR.out];simp only[cd] at ag;go_enter Tryz.func39,Tryz.ntmps39
 go_wp2_with fail
 go_loopw [7] (fun aq B=>∃(k:Nat),k<=n∧aq = .int .i64 k∧Hid (∀j,j<k->p j=true)∧Hid (V I B)) (fun aq _=>n - (intOf aq).toNat)
 case atStart=>exact⟨0,cE _,rfl,fun j aT=>absurd aT (Nat.not_lt_zero j),ax _ _⟩
 case round =>
  obtain⟨k,X,rfl,f5,au⟩:=hrel;by_cases aB:k<n
  ·have C:=K (ch k aB f5 _ au);have fa:(k:Int)<(n:Int):=by omega
   have aS:=bF ((k:Int)+1);have cl:=K (show p k=p k from rfl);obtain⟨b,kQ⟩:∃b,Hid (p k=b):=⟨_,rfl⟩
   rw[kQ.out] at C;clear cl;cases b
   ·have e:r=false:=by
     rw[<-bR.out];cases ak:(List.range n).all p with
     | false=>rfl
     | true=>have:=k9.1 ak k (om.2 aB);rw[kQ.out] at this;cases this
    subst e;clear bR kQ f5;go_wp2_with (go_at_call 46;refine C.mono ?_;rintro e w2 ⟨rfl,bH⟩)
    go_ret
    exact⟨rfl,au.trans (bH.mono au.size)⟩
   ·have nc:Hid (∀j,j<k+1->p j=true):=fun j aT=>by
     rcases Nat.lt_succ_iff_lt_or_eq.1 aT with h | h
     ·exact f5 j h
     ·subst h;exact kQ
    clear kQ f5;go_wp2_with (go_at_call 46;refine C.mono ?_;rintro e w2 ⟨rfl,bH⟩)
    go_roundw
    case measure=>simp[intOf];omega
    exact⟨k+1,by omega,by simp,nc.out,au.trans (bH.mono au.size)⟩
  ·have cQ:¬((k:Int)<(n:Int)):=by omega
   have e:r=true:=by
    rw[<-bR.out];exact k9.2 fun j aT=>f5 j (by have:=om.1 aT;omega)
   subst e;clear bR f5;go_wp2;go_ret
   exact⟨rfl,au⟩
end Go.Proofs.YtcbcenfjigcfkaaGreatDoor
