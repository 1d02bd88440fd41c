import Derived.Test.YtlaljeobdddegaaJ04
import Derived.Laws.BitsAllLaws
import Derived.Laws.BitsLemmas
import Derived.Test.YtlaljeobdddegaaJ31
import Derived.Laws.IdiomCopy
namespace Go.Proofs.Ytlaljeobdddegaa
theorem and_bits (a b:Nat) (ha:a<18446744073709551616) (hb:b<18446744073709551616):bits BinOp.and IntKind.u64 (a:Int) (b:Int)=((a &&& b:Nat):Int):=bits_and_u64_nat a b ha hb
theorem add_wrap (a b:Nat):IntKind.u64.wrap ((a:Int)+(b:Int))=(((a+b) % 18446744073709551616:Nat):Int):=by
 rw [IntKind.wrap_u64];omega
def valD (k:Nat):List Nat→Nat
 | []=>0
 | d :: r=>d+2 ^ k*valD k r
def pairsD:List Nat→List Nat
 | a :: b :: r=>(a+b) :: pairsD r
 | l=>l
def bitsD:Nat→Nat→List Nat
 | 0,_=>[]
 | f+1,v=>v % 2 :: bitsD f (v / 2)
theorem val_bits (f v:Nat) (h:v<2 ^ f):valD 1 (bitsD f v)=v:=by
 induction f generalizing v with
 | zero=>simp at h;simp [bitsD,valD,h]
 | succ f ih =>
  rw [Nat.pow_succ] at h
  simp only [bitsD,valD]
  rw [ih (v / 2) (by omega)];omega
theorem bits_length (f v:Nat):(bitsD f v).length=f:=by
 induction f generalizing v with
 | zero=>rfl
 | succ f ih=>simp [bitsD,ih]
theorem bits_lt (f v:Nat):∀ d,d ∈ bitsD f v→d≤1:=by
 induction f generalizing v with
 | zero=>intro d hd;simp [bitsD] at hd
 | succ f ih =>
  intro d hd
  simp only [bitsD,List.mem_cons] at hd
  rcases hd with rfl | hd
  ·omega
  ·exact ih _ d hd
theorem pairs_sum (l:List Nat):(pairsD l).sum=l.sum:=by
 fun_induction pairsD l with
 | case1 a b r ih=>simp only [List.sum_cons,ih];omega
 | case2 l h=>rfl
theorem and_split (m lo hi lo' hi':Nat) (h:lo<2 ^ m) (h':lo'<2 ^ m):(lo+2 ^ m*hi) &&& (lo'+2 ^ m*hi')=(lo &&& lo')+2 ^ m*(hi &&& hi'):=by
 have hl:lo &&& lo'<2 ^ m:=Nat.lt_of_le_of_lt Nat.and_le_left h
 apply Nat.eq_of_testBit_eq
 intro j
 rw [Nat.testBit_and,Nat.add_comm lo,Nat.add_comm lo',Nat.add_comm (lo &&& lo'),Nat.testBit_two_pow_mul_add _ h,Nat.testBit_two_pow_mul_add _ h',Nat.testBit_two_pow_mul_add _ hl]
 split
 ·rw [Nat.testBit_and]
 ·rw [Nat.testBit_and]
def evens (k:Nat):Nat→Nat
 | 0=>0
 | n+1=>(2 ^ k - 1)+2 ^ (2*k)*evens k n
theorem two_mul_pow (k:Nat):2 ^ (2*k)=2 ^ k*2 ^ k:=by rw [Nat.two_mul,Nat.pow_add]
theorem low_and (k a c:Nat) (ha:a<2 ^ k):(a+2 ^ k*c) &&& (2 ^ k - 1)=a:=by
 rw [Nat.and_two_pow_sub_one_eq_mod,Nat.add_mul_mod_self_left,Nat.mod_eq_of_lt ha]
theorem lt_two {k a c:Nat} (ha:a<2 ^ k) (hc:c<2 ^ k):a+2 ^ k*c<2 ^ (2*k):=by
 rw [two_mul_pow]
 have:2 ^ k*(c+1)≤2 ^ k*2 ^ k:=Nat.mul_le_mul_left _ hc
 rw [Nat.mul_add,Nat.mul_one] at this
 omega
theorem mask_lt (k:Nat):2 ^ k - 1<2 ^ (2*k):=by
 rw [two_mul_pow]
 have h1:=Nat.one_le_two_pow (n:=k)
 have h2:2 ^ k*1≤2 ^ k*2 ^ k:=Nat.mul_le_mul_left _ h1
 omega
theorem val_two (k a b R:Nat):a+2 ^ k*(b+2 ^ k*R)=(a+2 ^ k*b)+2 ^ (2*k)*R:=by
 rw [two_mul_pow,Nat.mul_add,Nat.mul_assoc,Nat.add_assoc]
theorem step_even (k n:Nat) (l:List Nat) (hl:l.length=2*n) (hd:∀ d,d ∈ l→d<2 ^ k):∃ es os:List Nat,es.length=n∧os.length=n∧valD k l &&& evens k n=valD (2*k) es∧(valD k l / 2 ^ k) &&& evens k n=valD (2*k) os∧(∀ i,i<n→True)∧List.zipWith (· + ·) es os=pairsD l:=by
 induction n generalizing l with
 | zero =>
  have:l=[]:=List.length_eq_zero_iff.1 (by omega)
  subst this
  exact ⟨[],[],rfl,rfl,by simp [valD,evens],by simp [valD,evens],fun _ _=>trivial,rfl⟩
 | succ n ih =>
  match l,hl,hd with
  | a :: b :: r,hl,hd =>
   have ha:=hd a (by simp)
   have hb:=hd b (by simp)
   obtain ⟨es,os,h1,h2,h3,h4,-,h6⟩:=ih r (by simp at hl;omega) (fun d h=>hd d (by simp [h]))
   refine ⟨a :: es,b :: os,by simp [h1],by simp [h2],?_,?_,fun _ _=>trivial,by simp [pairsD,h6]⟩
   ·simp only [valD,evens]
    rw [val_two,and_split (2*k) _ _ _ _ (lt_two ha hb) (mask_lt k),low_and k a b ha,h3]
   ·simp only [valD,evens]
    have e1:(a+2 ^ k*(b+2 ^ k*valD k r)) / 2 ^ k=b+2 ^ k*valD k r:=by
     rw [Nat.add_mul_div_left _ _ (Nat.two_pow_pos k),Nat.div_eq_of_lt ha,Nat.zero_add]
    have e2:b+2 ^ k*valD k r=(b+2 ^ k*(valD k r % 2 ^ k))+2 ^ (2*k)*(valD k r / 2 ^ k):=by
     rw [two_mul_pow,Nat.mul_assoc,Nat.add_assoc,←Nat.mul_add,Nat.mod_add_div]
    rw [e1,e2,and_split (2*k) _ _ _ _ (lt_two hb (Nat.mod_lt _ (Nat.two_pow_pos k))) (mask_lt k),low_and k b _ hb,h4]
theorem val_zip (k:Nat) (a b:List Nat) (h:a.length=b.length):valD k a+valD k b=valD k (List.zipWith (· + ·) a b):=by
 induction a generalizing b with
 | nil=>cases b with
  | nil=>rfl
  | cons=>simp at h
 | cons x r ih =>
  cases b with
  | nil=>simp at h
  | cons y s =>
   simp only [List.zipWith_cons_cons,valD]
   rw [←ih s (by simpa using h),Nat.mul_add];omega
theorem count_step (k n:Nat) (l:List Nat) (hl:l.length=2*n) (hd:∀ d,d ∈ l→d<2 ^ k):(valD k l / 2 ^ k &&& evens k n)+(valD k l &&& evens k n)=valD (2*k) (pairsD l):=by
 obtain ⟨es,os,h1,h2,h3,h4,-,h6⟩:=step_even k n l hl hd
 rw [h3,h4,Nat.add_comm,val_zip _ _ _ (h1.trans h2.symm),h6]
theorem pairs_length (l:List Nat) (n:Nat) (h:l.length=2*n):(pairsD l).length=n:=by
 induction n generalizing l with
 | zero =>
      have:l=[]:=List.length_eq_zero_iff.1 (by omega)
      subst this;rfl
 | succ n ih =>
  match l,h with
  | a :: b :: r,h=>simp only [pairsD,List.length_cons];rw [ih r (by simp at h;omega)]
theorem pairs_le (l:List Nat) (n m:Nat) (h:l.length=2*n) (hd:∀ d,d ∈ l→d≤m):∀ d,d ∈ pairsD l→d≤2*m:=by
 induction n generalizing l with
 | zero =>
      have:l=[]:=List.length_eq_zero_iff.1 (by omega)
      subst this;intro d hd;simp [pairsD] at hd
 | succ n ih =>
  match l,h,hd with
  | a :: b :: r,h,hd =>
   have ha:=hd a (by simp)
   have hb:=hd b (by simp)
   intro d hx
   simp only [pairsD,List.mem_cons] at hx
   rcases hx with rfl | hx
   ·omega
   ·exact ih r (by simp at h;omega) (fun d h=>hd d (by simp [h])) d hx
end Go.Proofs.Ytlaljeobdddegaa

namespace Go.Proofs.Ytlaljeobdddegaa
open Go.RowKit
theorem val_mod (k:Nat) (m:Nat) (l:List Nat) (hd:∀ d,d ∈ l→d≤m) (hm:m<2 ^ k):valD k l % 2 ^ k≤m:=by
 cases l with
 | nil=>simp [valD]
 | cons d r =>
  have:=hd d (by simp)
  simp only [valD]
  rw [Nat.add_mul_mod_self_left,Nat.mod_eq_of_lt (by omega)];exact this
theorem sum_and (k n m:Nat) (hm:2*m<2 ^ k) (l:List Nat) (hl:l.length=2*n) (hd:∀ d,d ∈ l→d≤m):(valD k l / 2 ^ k+valD k l) &&& evens k n=valD (2*k) (pairsD l):=by
 induction n generalizing l with
 | zero =>
  have:l=[]:=List.length_eq_zero_iff.1 (by omega)
  subst this
  simp [valD,evens,pairsD]
 | succ n ih =>
  match l,hl,hd with
  | a :: b :: r,hl,hd =>
   have ha:=hd a (by simp)
   have hb:=hd b (by simp)
   have hr:=val_mod k m r (fun d h=>hd d (by simp [h])) (by omega)
   have hi:=ih r (by simp at hl;omega) (fun d h=>hd d (by simp [h]))
   simp only [valD,evens,pairsD]
   have e1:(a+2 ^ k*(b+2 ^ k*valD k r)) / 2 ^ k=b+2 ^ k*valD k r:=by
    rw [Nat.add_mul_div_left _ _ (Nat.two_pow_pos k),Nat.div_eq_of_lt (by omega),Nat.zero_add]
   have e2:b+2 ^ k*valD k r+(a+2 ^ k*(b+2 ^ k*valD k r))=((a+b)+2 ^ k*(b+valD k r % 2 ^ k))+2 ^ (2*k)*(valD k r / 2 ^ k+valD k r):=by
    have e3:2 ^ k*valD k r=2 ^ k*(valD k r % 2 ^ k)+2 ^ (2*k)*(valD k r / 2 ^ k):=by
     rw [two_mul_pow,Nat.mul_assoc,←Nat.mul_add,Nat.mod_add_div]
    have e4:2 ^ k*(2 ^ k*valD k r)=2 ^ (2*k)*valD k r:=by rw [two_mul_pow,Nat.mul_assoc]
    rw [Nat.mul_add,e4,Nat.mul_add,Nat.mul_add]
    omega
   rw [e1,e2,and_split (2*k) _ _ _ _ (lt_two (by omega) (by omega)) (mask_lt k),low_and k (a+b) _ (by omega),hi]
theorem m0:evens 1 32=6148914691236517205:=by decide
theorem m1:evens 2 16=3689348814741910323:=by decide
theorem m2:evens 4 8=1085102592571150095:=by decide
theorem and_div (a q M:Nat) (ha:a<18446744073709551616) (hM:M<18446744073709551616):bits BinOp.and IntKind.u64 ((a:Int) / (q:Int)) (M:Int)=((a / q &&& M:Nat):Int):=by
 have:=and_bits (a / q) M (Nat.lt_of_le_of_lt (Nat.div_le_self _ _) ha) hM
 rw [Int.natCast_ediv] at this
 exact this
theorem add_small (a b:Nat) (h:a+b<18446744073709551616):IntKind.u64.wrap ((a:Int)+(b:Int))=((a+b:Nat):Int):=by
 rw [add_wrap,Nat.mod_eq_of_lt h]
theorem add_div (a q:Nat) (h:a / q+a<18446744073709551616):IntKind.u64.wrap ((a:Int) / (q:Int)+(a:Int))=((a / q+a:Nat):Int):=by
 rw [←Int.natCast_ediv,add_small _ _ h]
theorem add_div' (a q:Nat) (h:a+a / q<18446744073709551616):IntKind.u64.wrap ((a:Int)+(a:Int) / (q:Int))=((a+a / q:Nat):Int):=by
 rw [←Int.natCast_ediv,add_small _ _ h]
theorem and_le (a b:Nat):a &&& b≤b:=Nat.and_le_right
theorem dv (a b:Nat) (h:a<256):(a+256*b) / 256=b:=by omega
theorem add2 (a b A B:Nat):a+256*A+(b+256*B)=(a+b)+256*(A+B):=by omega
theorem add1 (a b A:Nat):a+256*A+b=(a+b)+256*A:=by omega
theorem low7 (a b A B:Nat) (h:a+b<128):(a+256*A+(b+256*B)) % 128=a+b:=by omega
theorem val_le (m:Nat) (l:List Nat) (h:∀ d,d ∈ l→d≤m):valD 8 l≤m*valD 8 (List.replicate l.length 1):=by
 induction l with
 | nil=>simp [valD]
 | cons d r ih =>
  have h1:=h d (by simp)
  have h2:=ih (fun x hx=>h x (by simp [hx]))
  simp only [valD,List.length_cons,List.replicate_succ]
  rw [Nat.mul_add,Nat.mul_one,Nat.mul_left_comm]
  have h3:=Nat.mul_le_mul_left (2 ^ 8) h2
  omega
theorem sum_bytes (l:List Nat) (hl:l.length=8) (hd:∀ d,d ∈ l→d≤8) (c d e:Nat) (hc:c=valD 8 l) (hdd:d=c+c / 256) (he:e=d+d / 65536):c<1152921504606846976∧(e+e / 4294967296) % 128=l.sum:=by
 constructor
 ·have:=val_le 8 l hd
  rw [hl] at this
  rw [hc]
  have e8:valD 8 (List.replicate 8 1)=72340172838076673:=by decide
  rw [e8] at this
  omega
 ·match l,hl,hd,hc with
  | [d0,d1,d2,d3,d4,d5,d6,d7],_,hd,hc =>
   have h0:=hd d0 (by simp)
   have h1:=hd d1 (by simp)
   have h2:=hd d2 (by simp)
   have h3:=hd d3 (by simp)
   have h4:=hd d4 (by simp)
   have h5:=hd d5 (by simp)
   have h6:=hd d6 (by simp)
   have h7:=hd d7 (by simp)
   clear hd
   have e0:c=d0+256*(d1+256*(d2+256*(d3+256*(d4+256*(d5+256*(d6+256*(d7))))))):=by rw [hc];simp [valD]
   have a1:c / 256=d1+256*(d2+256*(d3+256*(d4+256*(d5+256*(d6+256*(d7)))))):=by rw [e0];exact dv _ _ (by omega)
   have a2:d=(d0+d1)+256*((d1+d2)+256*((d2+d3)+256*((d3+d4)+256*((d4+d5)+256*((d5+d6)+256*((d6+d7)+256*(d7))))))):=by
    rw [hdd,a1,e0,add2,add2,add2,add2,add2,add2,add1]
   have a3:d / 65536=(d2+d3)+256*((d3+d4)+256*((d4+d5)+256*((d5+d6)+256*((d6+d7)+256*(d7))))):=by
    rw [a2,show 65536=256*256 from rfl,←Nat.div_div_eq_div_mul,dv _ _ (by omega),dv _ _ (by omega)]
   have a4:e=((d0+d1)+(d2+d3))+256*(((d1+d2)+(d3+d4))+256*(((d2+d3)+(d4+d5))+256*(((d3+d4)+(d5+d6))+256*(((d4+d5)+(d6+d7))+256*(((d5+d6)+d7)+256*((d6+d7)+256*(d7))))))):=by
    rw [he,a3,a2,add2,add2,add2,add2,add2,add1]
   have a5:e / 4294967296=((d4+d5)+(d6+d7))+256*(((d5+d6)+d7)+256*((d6+d7)+256*(d7))):=by
    rw [a4,show 4294967296=256*256*256*256 from rfl,←Nat.div_div_eq_div_mul,←Nat.div_div_eq_div_mul,←Nat.div_div_eq_div_mul,dv _ _ (by omega),dv _ _ (by omega),dv _ _ (by omega),dv _ _ (by omega)]
   rw [a5,a4,low7 _ _ _ _ (by omega)]
   simp only [List.sum_cons,List.sum_nil]
   omega
end Go.Proofs.Ytlaljeobdddegaa

namespace Go.Proofs.Ytlaljeobdddegaa
open Go.RowKit
theorem w64 (x:Int):IntKind.i64.wrap x=wrap64 x:=by rw [IntKind.wrap_i64];unfold wrap64;rfl
theorem and_127 (f:Nat) (hfl:f<9223372036854775808):bits BinOp.and IntKind.i64 (f:Int) 127=((f % 128:Nat):Int):=by
 have hk:∀ (n:Int),0≤n→n<2 ^ 63→IntKind.i64.wrap n=n:=fun n h0 h1=>wrapI n (by omega) (by omega)
 have h:=bits_mask .i64 63 (by decide) hk 7 (by decide) (f:Int) (by omega) (by omega)
 have e7:(2:Int) ^ 7=128:=by decide
 have e8:(128:Int) - 1=127:=by decide
 rw [e7,e8] at h
 rw [h];omega
set_option maxHeartbeats 1000000 in
theorem ones_any (x:Nat) (hx:x<18446744073709551616) (w:World) :
  Calls Try.prog 74 #[.int .u64 (x:Int)] w fun e w'=>e = .returned (.int .i64 (((bitsD 64 x).sum:Nat):Int))∧w'=w:=by
 have hb:=bits_length 64 x
 have h0:=count_step 1 32 (bitsD 64 x) hb (fun d h=>by have:=bits_lt 64 x d h;omega)
 rw [val_bits 64 x hx,m0] at h0
 have l1:=pairs_length _ 32 hb
 have s1:=pairs_le _ 32 1 hb (bits_lt 64 x)
 have h1:=count_step 2 16 _ l1 (fun d h=>by have:=s1 d h;omega)
 rw [m1] at h1
 have l2:=pairs_length _ 16 l1
 have s2:=pairs_le _ 16 2 l1 s1
 have h2:=sum_and 4 8 4 (by decide) _ l2 s2
 rw [m2] at h2
 have l3:=pairs_length _ 8 l2
 have s3:=pairs_le _ 8 4 l2 s2
 obtain ⟨c,hc⟩:∃ c,c=valD 8 (pairsD (pairsD (pairsD (bitsD 64 x)))):=⟨_,rfl⟩
 obtain ⟨d,hd⟩:∃ d,d=c+c / 256:=⟨_,rfl⟩
 obtain ⟨e,he⟩:∃ e,e=d+d / 65536:=⟨_,rfl⟩
 obtain ⟨hclt,hsum⟩:=sum_bytes _ l3 s3 c d e hc hd he
 rw [pairs_sum,pairs_sum,pairs_sum] at hsum
 rw [←hsum]
 replace h2:_=c:=h2.trans hc.symm
 clear hsum l1 l2 l3 s1 s2 s3 hb hc
 generalize valD (2*2) (pairsD (pairsD (bitsD 64 x)))=b at *
 generalize valD (2*1) (pairsD (bitsD 64 x))=a at *
 obtain ⟨x1,hx1⟩:∃ y:Nat,y=x / 2 ^ 1 &&& 6148914691236517205:=⟨_,rfl⟩
 obtain ⟨x2,hx2⟩:∃ y:Nat,y=x &&& 6148914691236517205:=⟨_,rfl⟩
 have b0:x1≤6148914691236517205:=by rw [hx1];exact and_le _ _
 have b0':x2≤6148914691236517205:=by rw [hx2];exact and_le _ _
 have q1:bits BinOp.and IntKind.u64 ((x:Int) / 2) 6148914691236517205=(x1:Int):=by rw [hx1];exact and_div x 2 6148914691236517205 hx (by decide)
 have q2:bits BinOp.and IntKind.u64 (x:Int) 6148914691236517205=(x2:Int):=by rw [hx2];exact and_bits x 6148914691236517205 hx (by decide)
 rw [←hx1,←hx2] at h0
 clear hx1 hx2
 have q3:IntKind.u64.wrap ((x1:Int)+(x2:Int))=(a:Int):=by rw [add_small _ _ (by omega),h0]
 have ha:a<18446744073709551616:=by omega
 obtain ⟨a1,ha1⟩:∃ y:Nat,y=a / 2 ^ 2 &&& 3689348814741910323:=⟨_,rfl⟩
 obtain ⟨a2,ha2⟩:∃ y:Nat,y=a &&& 3689348814741910323:=⟨_,rfl⟩
 have b1:a1≤3689348814741910323:=by rw [ha1];exact and_le _ _
 have b1':a2≤3689348814741910323:=by rw [ha2];exact and_le _ _
 have q4:bits BinOp.and IntKind.u64 ((a:Int) / 4) 3689348814741910323=(a1:Int):=by rw [ha1];exact and_div a 4 3689348814741910323 ha (by decide)
 have q5:bits BinOp.and IntKind.u64 (a:Int) 3689348814741910323=(a2:Int):=by rw [ha2];exact and_bits a 3689348814741910323 ha (by decide)
 rw [←ha1,←ha2] at h1
 clear ha1 ha2
 have q6:IntKind.u64.wrap ((a1:Int)+(a2:Int))=(b:Int):=by rw [add_small _ _ (by omega),h1]
 have hb:b<7378697629483820648:=by omega
 have hb4:b / 2 ^ 4≤b:=Nat.div_le_self _ _
 obtain ⟨b3,hb3⟩:∃ y:Nat,y=b / 2 ^ 4+b:=⟨_,rfl⟩
 have hb3l:b3<18446744073709551616:=by omega
 have q7:IntKind.u64.wrap ((b:Int) / 16+(b:Int))=(b3:Int):=by rw [hb3];exact add_div b 16 (by omega)
 rw [←hb3] at h2
 clear hb3
 have q8:bits BinOp.and IntKind.u64 (b3:Int) 1085102592571150095=(c:Int):=by rw [←h2];exact and_bits b3 1085102592571150095 hb3l (by decide)
 have k1:c / 256≤c:=Nat.div_le_self _ _
 have k2:d / 65536≤d:=Nat.div_le_self _ _
 have k3:e / 4294967296≤e:=Nat.div_le_self _ _
 have q9:IntKind.u64.wrap ((c:Int)+(c:Int) / 256)=(d:Int):=by rw [hd];exact add_div' c 256 (by omega)
 have q10:IntKind.u64.wrap ((d:Int)+(d:Int) / 65536)=(e:Int):=by rw [he];exact add_div' d 65536 (by omega)
 obtain ⟨f,hf⟩:∃ y:Nat,y=e+e / 4294967296:=⟨_,rfl⟩
 have q11:IntKind.u64.wrap ((e:Int)+(e:Int) / 4294967296)=(f:Int):=by rw [hf];exact add_div' e 4294967296 (by omega)
 have hfl:f<9223372036854775808:=by omega
 rw [←hf]
 clear hf k1 k2 k3
 have q13:wrap64 (f:Int)=(f:Int):=by rw [←w64];exact wrapI _ (by omega) (by omega)
 have q14:bits BinOp.and IntKind.i64 (f:Int) 127=((f % 128:Nat):Int):=and_127 f hfl
 clear h0 h1 h2 hd he b0 b0' b1 b1' hb4 hb ha hclt hfl hx hb3l
 go_enter Try.func74,Try.ntmps74
 go_wp2
 go_ret
 refine ⟨ret_int ?_,rfl⟩
 exact (Int.natCast_emod f 128).symm
end Go.Proofs.Ytlaljeobdddegaa

namespace Go.Proofs.Ytlaljeobdddegaa
open Go.RowKit Mp
def insA (l:List Nat) (p x:Nat):List Nat:=l.take p++x :: l.drop p
theorem insA_len {l:List Nat} {p x:Nat} (h:p≤l.length):(insA l p x).length=l.length+1:=by
 unfold insA;rw [List.length_append,List.length_cons,List.length_take,List.length_drop];omega
theorem insA_mem {l:List Nat} {p x y:Nat}:y ∈ insA l p x↔y=x∨y ∈ l:=by
 unfold insA
 rw [List.mem_append,List.mem_cons]
 constructor
 ·rintro (h | h | h)
  ·exact Or.inr (List.mem_of_mem_take h)
  ·exact Or.inl h
  ·exact Or.inr (List.mem_of_mem_drop h)
 ·rintro (h | h)
  ·exact Or.inr (Or.inl h)
  ·rw [←List.take_append_drop p l] at h
   rcases List.mem_append.1 h with h | h
   ·exact Or.inl h
   ·exact Or.inr (Or.inr h)
theorem ris_app:∀ {a b:List Nat},Ris a→Ris b→(∀ x,x ∈ a→∀ y,y ∈ b→x<y)→Ris (a++b)
 | [],_,_,hb,_=>hb
 | x :: t,b,ha,hb,h=>by
  cases ha with
  | cons h1 h2 =>
   refine .cons (fun y hy=>?_) (ris_app h2 hb (fun z hz y hy=>h z (List.mem_cons_of_mem _ hz) y hy))
   rcases List.mem_append.1 hy with hy | hy
   ·exact h1 y hy
   ·exact h x List.mem_cons_self y hy
theorem Mp.Ris.take {l:List Nat} (h:Ris l) (p:Nat):Ris (l.take p):=by
 induction h generalizing p with
 | nil=>rw [List.take_nil];exact .nil
 | cons h1 _ ih =>
  cases p with
  | zero=>exact .nil
  | succ p=>rw [List.take_succ_cons];exact .cons (fun y hy=>h1 y (List.mem_of_mem_take hy)) (ih p)
theorem Mp.Ris.drop {l:List Nat} (h:Ris l) (p:Nat):Ris (l.drop p):=by
 induction h generalizing p with
 | nil=>rw [List.drop_nil];exact .nil
 | cons h1 h2 ih =>
  cases p with
  | zero=>exact .cons h1 h2
  | succ p=>rw [List.drop_succ_cons];exact ih p
theorem insA_ris {l:List Nat} {p x:Nat} (h:Ris l) (hs:Spot l x p) (hn:x ∉ l):Ris (insA l p x):=by
 unfold insA
 refine ris_app (h.take p) (.cons (fun y hy=>?_) (h.drop p)) (fun y hy z hz=>?_)
 ·obtain ⟨k,hk⟩:=List.getElem?_of_mem hy
  rw [List.getElem?_drop] at hk
  have h1:=hs.hi (p+k) y (by omega) hk
  have:y≠x:=fun e=>hn (by rw [←e];exact List.mem_of_mem_drop hy)
  omega
 ·obtain ⟨k,hk⟩:=List.getElem?_of_mem hy
  have hkp:k<p:=by
   have:=(List.getElem?_eq_some_iff.1 hk).1
   rw [List.length_take] at this;omega
  rw [List.getElem?_take_of_lt hkp] at hk
  have h1:=hs.lo k y hkp hk
  rcases List.mem_cons.1 hz with rfl | hz
  ·exact h1
  ·obtain ⟨m,hm⟩:=List.getElem?_of_mem hz
   rw [List.getElem?_drop] at hm
   have:=hs.hi (p+m) z (by omega) hm
   omega
theorem bits_count (f v:Nat):(bitsD f v).sum=((List.range f).filter (fun i=>v.testBit i)).length:=by
 induction f generalizing v with
 | zero=>rfl
 | succ f ih =>
  rw [List.range_succ_eq_map,List.filter_cons]
  have e:(List.map Nat.succ (List.range f)).filter (fun i=>v.testBit i)=((List.range f).filter (fun i=>(v / 2).testBit i)).map Nat.succ:=by
   rw [List.filter_map]
   congr 1
   refine List.filter_congr (fun i _=>?_)
   show v.testBit (i+1)=_
   rw [Nat.testBit_succ]
  show v % 2+(bitsD f (v / 2)).sum=_
  rw [ih,e]
  by_cases h:v.testBit 0=true
  ·rw [if_pos h,List.length_cons,List.length_map]
   rw [Nat.testBit_zero] at h
   have:=of_decide_eq_true h
   omega
  ·rw [if_neg h,List.length_map]
   rw [Nat.testBit_zero] at h
   have:¬ v % 2=1:=fun e=>h (decide_eq_true e)
   omega
theorem marks_few (l:List Nat):(bitsD 64 (mkM l)).sum≤l.length:=by
 rw [bits_count]
 have:=nd_len (C:=(List.range 64).filter (fun i=>(mkM l).testBit i)) (D:=l.map (· % 64)) (List.nodup_range.filter _) (fun i hi=>by
  obtain ⟨h1,h2⟩:=List.mem_filter.1 hi
  rw [mkM_bit,Bool.and_eq_true] at h2
  obtain ⟨v,hv,he⟩:=List.any_eq_true.1 h2.2
  exact List.mem_map.2 ⟨v,hv,by simpa using he⟩)
 rw [List.length_map] at this
 exact this
theorem mkM_join (a b:List Nat):mkM a ||| mkM b=mkM (joinL a b):=by
 refine nat_eq (fun i=>?_)
 rw [Nat.testBit_or,mkM_bit,mkM_bit,mkM_bit]
 by_cases hi:i<64
 ·simp only [hi,decide_true,Bool.true_and]
  rw [Bool.eq_iff_iff,Bool.or_eq_true,List.any_eq_true,List.any_eq_true,List.any_eq_true]
  constructor
  ·rintro (⟨v,h1,h2⟩ | ⟨v,h1,h2⟩)
   ·exact ⟨v,(joinL_mem _ _ _).2 (Or.inl h1),h2⟩
   ·exact ⟨v,(joinL_mem _ _ _).2 (Or.inr h1),h2⟩
  ·rintro ⟨v,h1,h2⟩
   rcases (joinL_mem _ _ _).1 h1 with h1 | h1
   ·exact Or.inl ⟨v,h1,h2⟩
   ·exact Or.inr ⟨v,h1,h2⟩
 ·simp [hi]
def bxA (l:List Nat) (M D T:Nat):Array Value:=#[.int .i64 (l.getD 0 0:Nat),.int .i64 (l.getD 1 0:Nat),.int .i64 (l.getD 2 0:Nat),.int .i64 (l.getD 3 0:Nat),.int .i64 (l.length:Nat),.int .u64 (M:Nat),.int .i64 (D:Nat),.int .u16 (T:Nat)]
end Go.Proofs.Ytlaljeobdddegaa

namespace Go.Proofs.Ytlaljeobdddegaa
open Go.RowKit Mp
theorem Blk.eight {w:World} {g:Nat} {t:TypeId} {z0 z1 z2 z3 z4 z5 z6 z7 v0 v1 v2 v3 v4 v5 v6 v7:Value} (h:Blk w g t #[z0,z1,z2,z3,z4,z5,z6,z7]):Blk ((((((((w.setCell ⟨g,0,none⟩ v0).setCell ⟨g,1,none⟩ v1).setCell ⟨g,2,none⟩ v2).setCell ⟨g,3,none⟩ v3).setCell ⟨g,4,none⟩ v4).setCell ⟨g,5,none⟩ v5).setCell ⟨g,6,none⟩ v6).setCell ⟨g,7,none⟩ v7) g t #[v0,v1,v2,v3,v4,v5,v6,v7]:=by
 have h0:Blk (w.setCell ⟨g,0,none⟩ v0) g t #[v0,z1,z2,z3,z4,z5,z6,z7]:=h.set 0 v0
 have h1:Blk ((w.setCell ⟨g,0,none⟩ v0).setCell ⟨g,1,none⟩ v1) g t #[v0,v1,z2,z3,z4,z5,z6,z7]:=h0.set 1 v1
 have h2:Blk (((w.setCell ⟨g,0,none⟩ v0).setCell ⟨g,1,none⟩ v1).setCell ⟨g,2,none⟩ v2) g t #[v0,v1,v2,z3,z4,z5,z6,z7]:=h1.set 2 v2
 have h3:Blk ((((w.setCell ⟨g,0,none⟩ v0).setCell ⟨g,1,none⟩ v1).setCell ⟨g,2,none⟩ v2).setCell ⟨g,3,none⟩ v3) g t #[v0,v1,v2,v3,z4,z5,z6,z7]:=h2.set 3 v3
 have h4:Blk (((((w.setCell ⟨g,0,none⟩ v0).setCell ⟨g,1,none⟩ v1).setCell ⟨g,2,none⟩ v2).setCell ⟨g,3,none⟩ v3).setCell ⟨g,4,none⟩ v4) g t #[v0,v1,v2,v3,v4,z5,z6,z7]:=h3.set 4 v4
 have h5:Blk ((((((w.setCell ⟨g,0,none⟩ v0).setCell ⟨g,1,none⟩ v1).setCell ⟨g,2,none⟩ v2).setCell ⟨g,3,none⟩ v3).setCell ⟨g,4,none⟩ v4).setCell ⟨g,5,none⟩ v5) g t #[v0,v1,v2,v3,v4,v5,z6,z7]:=h4.set 5 v5
 have h6:Blk (((((((w.setCell ⟨g,0,none⟩ v0).setCell ⟨g,1,none⟩ v1).setCell ⟨g,2,none⟩ v2).setCell ⟨g,3,none⟩ v3).setCell ⟨g,4,none⟩ v4).setCell ⟨g,5,none⟩ v5).setCell ⟨g,6,none⟩ v6) g t #[v0,v1,v2,v3,v4,v5,v6,z7]:=h5.set 6 v6
 have h7:Blk ((((((((w.setCell ⟨g,0,none⟩ v0).setCell ⟨g,1,none⟩ v1).setCell ⟨g,2,none⟩ v2).setCell ⟨g,3,none⟩ v3).setCell ⟨g,4,none⟩ v4).setCell ⟨g,5,none⟩ v5).setCell ⟨g,6,none⟩ v6).setCell ⟨g,7,none⟩ v7) g t #[v0,v1,v2,v3,v4,v5,v6,v7]:=h6.set 7 v7
 exact h7
theorem But.eight (w:World) (g:Nat) (v0 v1 v2 v3 v4 v5 v6 v7:Value):But g w ((((((((w.setCell ⟨g,0,none⟩ v0).setCell ⟨g,1,none⟩ v1).setCell ⟨g,2,none⟩ v2).setCell ⟨g,3,none⟩ v3).setCell ⟨g,4,none⟩ v4).setCell ⟨g,5,none⟩ v5).setCell ⟨g,6,none⟩ v6).setCell ⟨g,7,none⟩ v7):=(But.set g 0 w v0).trans ((But.set g 1 _ v1).trans ((But.set g 2 _ v2).trans ((But.set g 3 _ v3).trans ((But.set g 4 _ v4).trans ((But.set g 5 _ v5).trans ((But.set g 6 _ v6).trans (But.set g 7 _ v7)))))))
theorem ints_u:Try.prog.underlying 24=some (.slice 3):=by kernel_rfl
theorem ints_s:(Try.prog.info? 3).map (·.size)=some 1:=by kernel_rfl
def dstV (g p:Nat):Value:=.slice (some ⟨g,if p=3 then 0 else p+1,none⟩) (3 - p) (3 - p)
def srcV (g n p:Nat):Value:=.slice (some ⟨g,p,none⟩) (n - p) (4 - p)
def shN (l:List Nat) (p i:Nat):Nat:=if i≤p then l.getD i 0 else if i≤l.length then l.getD (i - 1) 0 else 0
def shA (l:List Nat) (p M D T:Nat):Array Value:=#[.int .i64 (shN l p 0:Nat),.int .i64 (shN l p 1:Nat),.int .i64 (shN l p 2:Nat),.int .i64 (shN l p 3:Nat),.int .i64 (l.length:Nat),.int .u64 (M:Nat),.int .i64 (D:Nat),.int .u16 (T:Nat)]
theorem addL (g o j:Nat):(⟨g,o,none⟩:Addr).add j=⟨g,o+j,none⟩:=by unfold Addr.add;split <;> simp_all
theorem copy_step (wx:World) (g p M D T:Nat) (l:List Nat) (hl:l.length≤3) (hp:p≤l.length) (ty:TypeId) (hb:Blk wx g 114 (bxA l M D T)) :
  ∃ wy,(Builtin.copy_ #[24,24] ty #[dstV g p,srcV g l.length p]).run Try.prog wx = .ok (goInt (l.length - p:Nat)) wy∧But g wx wy∧Blk wy g 114 (shA l p M D T):=by
 match l,p,hl,hp,hb with
 | [],0,_,_,hb =>
  have hr:=run_copy_cells (P:=Try.prog) wx 24 24 ty 3 g 1 3 3 ⟨g,0,none⟩ 0 4 [] ints_u ints_s rfl (fun j v hv=>by
   simp at hv) (fun j hj=>by simp at hj) (fun j hj=>by simp at hj) (fun v hv=>by simp at hv)
  exact ⟨_,hr,But.refl _ _,hb⟩
 | [a],0,_,_,hb =>
  have hr:=run_copy_cells (P:=Try.prog) wx 24 24 ty 3 g 1 3 3 ⟨g,0,none⟩ 1 4 [.int .i64 (a:Nat)] ints_u ints_s rfl (fun j v hv=>by
   have hj:j<1:=(List.getElem?_eq_some_iff.1 hv).1
   have:j=0:=by omega
   rw [addL]
   subst this
   obtain rfl:=Option.some.inj hv
   exact hb.cell (i:=0) rfl) (fun j hj=>by
   have:j=0:=by have h:j<1:=hj;omega
   subst this
   exact Option.isSome_iff_exists.2 ⟨_,hb.cell (i:=1) rfl⟩) (fun j _=>hb.frozen _) (fun v hv=>by
   simp only [List.mem_cons,List.not_mem_nil,or_false] at hv
   subst hv;rfl)
  have s0:Blk (wx.setCell ⟨g,1,none⟩ (.int .i64 (a:Nat))) g 114 #[.int .i64 (a:Nat),.int .i64 (a:Nat),.int .i64 ((0:Nat):Int),.int .i64 ((0:Nat):Int),.int .i64 ((1:Nat):Int),.int .u64 (M:Nat),.int .i64 (D:Nat),.int .u16 (T:Nat)]:=hb.set 1 _
  exact ⟨_,hr,(But.set g 1 _ _),s0⟩
 | [a],1,_,_,hb =>
  have hr:=run_copy_cells (P:=Try.prog) wx 24 24 ty 3 g 2 2 2 ⟨g,1,none⟩ 0 3 [] ints_u ints_s rfl (fun j v hv=>by
   simp at hv) (fun j hj=>by simp at hj) (fun j hj=>by simp at hj) (fun v hv=>by simp at hv)
  exact ⟨_,hr,But.refl _ _,hb⟩
 | [a,b],0,_,_,hb =>
  have hr:=run_copy_cells (P:=Try.prog) wx 24 24 ty 3 g 1 3 3 ⟨g,0,none⟩ 2 4 [.int .i64 (a:Nat),.int .i64 (b:Nat)] ints_u ints_s rfl (fun j v hv=>by
   have hj:j<2:=(List.getElem?_eq_some_iff.1 hv).1
   have:j=0∨j=1:=by omega
   rw [addL]
   rcases this with rfl | rfl
   ·obtain rfl:=Option.some.inj hv;exact hb.cell (i:=0) rfl
   ·obtain rfl:=Option.some.inj hv;exact hb.cell (i:=1) rfl) (fun j hj=>by
   have:j=0∨j=1:=by have h:j<2:=hj;omega
   rcases this with rfl | rfl
   ·exact Option.isSome_iff_exists.2 ⟨_,hb.cell (i:=1) rfl⟩
   ·exact Option.isSome_iff_exists.2 ⟨_,hb.cell (i:=2) rfl⟩) (fun j _=>hb.frozen _) (fun v hv=>by
   simp only [List.mem_cons,List.not_mem_nil,or_false] at hv
   rcases hv with rfl | rfl <;> rfl)
  have s0:Blk (wx.setCell ⟨g,1,none⟩ (.int .i64 (a:Nat))) g 114 #[.int .i64 (a:Nat),.int .i64 (a:Nat),.int .i64 ((0:Nat):Int),.int .i64 ((0:Nat):Int),.int .i64 ((2:Nat):Int),.int .u64 (M:Nat),.int .i64 (D:Nat),.int .u16 (T:Nat)]:=hb.set 1 _
  have s1:Blk ((wx.setCell ⟨g,1,none⟩ (.int .i64 (a:Nat))).setCell ⟨g,2,none⟩ (.int .i64 (b:Nat))) g 114 #[.int .i64 (a:Nat),.int .i64 (a:Nat),.int .i64 (b:Nat),.int .i64 ((0:Nat):Int),.int .i64 ((2:Nat):Int),.int .u64 (M:Nat),.int .i64 (D:Nat),.int .u16 (T:Nat)]:=s0.set 2 _
  exact ⟨_,hr,(But.set g 1 _ _).trans ((But.set g 2 _ _)),s1⟩
 | [a,b],1,_,_,hb =>
  have hr:=run_copy_cells (P:=Try.prog) wx 24 24 ty 3 g 2 2 2 ⟨g,1,none⟩ 1 3 [.int .i64 (b:Nat)] ints_u ints_s rfl (fun j v hv=>by
   have hj:j<1:=(List.getElem?_eq_some_iff.1 hv).1
   have:j=0:=by omega
   rw [addL]
   subst this
   obtain rfl:=Option.some.inj hv
   exact hb.cell (i:=1) rfl) (fun j hj=>by
   have:j=0:=by have h:j<1:=hj;omega
   subst this
   exact Option.isSome_iff_exists.2 ⟨_,hb.cell (i:=2) rfl⟩) (fun j _=>hb.frozen _) (fun v hv=>by
   simp only [List.mem_cons,List.not_mem_nil,or_false] at hv
   subst hv;rfl)
  have s0:Blk (wx.setCell ⟨g,2,none⟩ (.int .i64 (b:Nat))) g 114 #[.int .i64 (a:Nat),.int .i64 (b:Nat),.int .i64 (b:Nat),.int .i64 ((0:Nat):Int),.int .i64 ((2:Nat):Int),.int .u64 (M:Nat),.int .i64 (D:Nat),.int .u16 (T:Nat)]:=hb.set 2 _
  exact ⟨_,hr,(But.set g 2 _ _),s0⟩
 | [a,b],2,_,_,hb =>
  have hr:=run_copy_cells (P:=Try.prog) wx 24 24 ty 3 g 3 1 1 ⟨g,2,none⟩ 0 2 [] ints_u ints_s rfl (fun j v hv=>by
   simp at hv) (fun j hj=>by simp at hj) (fun j hj=>by simp at hj) (fun v hv=>by simp at hv)
  exact ⟨_,hr,But.refl _ _,hb⟩
 | [a,b,c],0,_,_,hb =>
  have hr:=run_copy_cells (P:=Try.prog) wx 24 24 ty 3 g 1 3 3 ⟨g,0,none⟩ 3 4 [.int .i64 (a:Nat),.int .i64 (b:Nat),.int .i64 (c:Nat)] ints_u ints_s rfl (fun j v hv=>by
   have hj:j<3:=(List.getElem?_eq_some_iff.1 hv).1
   have:j=0∨j=1∨j=2:=by omega
   rw [addL]
   rcases this with rfl | rfl | rfl
   ·obtain rfl:=Option.some.inj hv;exact hb.cell (i:=0) rfl
   ·obtain rfl:=Option.some.inj hv;exact hb.cell (i:=1) rfl
   ·obtain rfl:=Option.some.inj hv;exact hb.cell (i:=2) rfl) (fun j hj=>by
   have:j=0∨j=1∨j=2:=by have h:j<3:=hj;omega
   rcases this with rfl | rfl | rfl
   ·exact Option.isSome_iff_exists.2 ⟨_,hb.cell (i:=1) rfl⟩
   ·exact Option.isSome_iff_exists.2 ⟨_,hb.cell (i:=2) rfl⟩
   ·exact Option.isSome_iff_exists.2 ⟨_,hb.cell (i:=3) rfl⟩) (fun j _=>hb.frozen _) (fun v hv=>by
   simp only [List.mem_cons,List.not_mem_nil,or_false] at hv
   rcases hv with rfl | rfl | rfl <;> rfl)
  have s0:Blk (wx.setCell ⟨g,1,none⟩ (.int .i64 (a:Nat))) g 114 #[.int .i64 (a:Nat),.int .i64 (a:Nat),.int .i64 (c:Nat),.int .i64 ((0:Nat):Int),.int .i64 ((3:Nat):Int),.int .u64 (M:Nat),.int .i64 (D:Nat),.int .u16 (T:Nat)]:=hb.set 1 _
  have s1:Blk ((wx.setCell ⟨g,1,none⟩ (.int .i64 (a:Nat))).setCell ⟨g,2,none⟩ (.int .i64 (b:Nat))) g 114 #[.int .i64 (a:Nat),.int .i64 (a:Nat),.int .i64 (b:Nat),.int .i64 ((0:Nat):Int),.int .i64 ((3:Nat):Int),.int .u64 (M:Nat),.int .i64 (D:Nat),.int .u16 (T:Nat)]:=s0.set 2 _
  have s2:Blk (((wx.setCell ⟨g,1,none⟩ (.int .i64 (a:Nat))).setCell ⟨g,2,none⟩ (.int .i64 (b:Nat))).setCell ⟨g,3,none⟩ (.int .i64 (c:Nat))) g 114 #[.int .i64 (a:Nat),.int .i64 (a:Nat),.int .i64 (b:Nat),.int .i64 (c:Nat),.int .i64 ((3:Nat):Int),.int .u64 (M:Nat),.int .i64 (D:Nat),.int .u16 (T:Nat)]:=s1.set 3 _
  exact ⟨_,hr,(But.set g 1 _ _).trans ((But.set g 2 _ _).trans ((But.set g 3 _ _))),s2⟩
 | [a,b,c],1,_,_,hb =>
  have hr:=run_copy_cells (P:=Try.prog) wx 24 24 ty 3 g 2 2 2 ⟨g,1,none⟩ 2 3 [.int .i64 (b:Nat),.int .i64 (c:Nat)] ints_u ints_s rfl (fun j v hv=>by
   have hj:j<2:=(List.getElem?_eq_some_iff.1 hv).1
   have:j=0∨j=1:=by omega
   rw [addL]
   rcases this with rfl | rfl
   ·obtain rfl:=Option.some.inj hv;exact hb.cell (i:=1) rfl
   ·obtain rfl:=Option.some.inj hv;exact hb.cell (i:=2) rfl) (fun j hj=>by
   have:j=0∨j=1:=by have h:j<2:=hj;omega
   rcases this with rfl | rfl
   ·exact Option.isSome_iff_exists.2 ⟨_,hb.cell (i:=2) rfl⟩
   ·exact Option.isSome_iff_exists.2 ⟨_,hb.cell (i:=3) rfl⟩) (fun j _=>hb.frozen _) (fun v hv=>by
   simp only [List.mem_cons,List.not_mem_nil,or_false] at hv
   rcases hv with rfl | rfl <;> rfl)
  have s0:Blk (wx.setCell ⟨g,2,none⟩ (.int .i64 (b:Nat))) g 114 #[.int .i64 (a:Nat),.int .i64 (b:Nat),.int .i64 (b:Nat),.int .i64 ((0:Nat):Int),.int .i64 ((3:Nat):Int),.int .u64 (M:Nat),.int .i64 (D:Nat),.int .u16 (T:Nat)]:=hb.set 2 _
  have s1:Blk ((wx.setCell ⟨g,2,none⟩ (.int .i64 (b:Nat))).setCell ⟨g,3,none⟩ (.int .i64 (c:Nat))) g 114 #[.int .i64 (a:Nat),.int .i64 (b:Nat),.int .i64 (b:Nat),.int .i64 (c:Nat),.int .i64 ((3:Nat):Int),.int .u64 (M:Nat),.int .i64 (D:Nat),.int .u16 (T:Nat)]:=s0.set 3 _
  exact ⟨_,hr,(But.set g 2 _ _).trans ((But.set g 3 _ _)),s1⟩
 | [a,b,c],2,_,_,hb =>
  have hr:=run_copy_cells (P:=Try.prog) wx 24 24 ty 3 g 3 1 1 ⟨g,2,none⟩ 1 2 [.int .i64 (c:Nat)] ints_u ints_s rfl (fun j v hv=>by
   have hj:j<1:=(List.getElem?_eq_some_iff.1 hv).1
   have:j=0:=by omega
   rw [addL]
   subst this
   obtain rfl:=Option.some.inj hv
   exact hb.cell (i:=2) rfl) (fun j hj=>by
   have:j=0:=by have h:j<1:=hj;omega
   subst this
   exact Option.isSome_iff_exists.2 ⟨_,hb.cell (i:=3) rfl⟩) (fun j _=>hb.frozen _) (fun v hv=>by
   simp only [List.mem_cons,List.not_mem_nil,or_false] at hv
   subst hv;rfl)
  have s0:Blk (wx.setCell ⟨g,3,none⟩ (.int .i64 (c:Nat))) g 114 #[.int .i64 (a:Nat),.int .i64 (b:Nat),.int .i64 (c:Nat),.int .i64 (c:Nat),.int .i64 ((3:Nat):Int),.int .u64 (M:Nat),.int .i64 (D:Nat),.int .u16 (T:Nat)]:=hb.set 3 _
  exact ⟨_,hr,(But.set g 3 _ _),s0⟩
 | [a,b,c],3,_,_,hb =>
  have hr:=run_copy_cells (P:=Try.prog) wx 24 24 ty 3 g 0 0 0 ⟨g,3,none⟩ 0 1 [] ints_u ints_s rfl (fun j v hv=>by
   simp at hv) (fun j hj=>by simp at hj) (fun j hj=>by simp at hj) (fun v hv=>by simp at hv)
  exact ⟨_,hr,But.refl _ _,hb⟩
theorem ins_box {wy:World} {g p M D T x:Nat} {l:List Nat} (hl:l.length≤3) (hp:p≤l.length) (hb:Blk wy g 114 (shA l p M D T)):Blk ((wy.setCell ⟨g,p,none⟩ (.int .i64 (x:Nat))).setCell ⟨g,4,none⟩ (.int .i64 ((l.length:Int)+1))) g 114 (bxA (insA l p x) M D T):=by
 match l,p,hl,hp,hb with
 | [],0,_,_,hb =>
  have s0:Blk (wy.setCell ⟨g,0,none⟩ (.int .i64 (x:Nat))) g 114 #[.int .i64 (x:Nat),.int .i64 ((0:Nat):Int),.int .i64 ((0:Nat):Int),.int .i64 ((0:Nat):Int),.int .i64 ((0:Nat):Int),.int .u64 (M:Nat),.int .i64 (D:Nat),.int .u16 (T:Nat)]:=hb.set 0 _
  exact s0.set 4 _
 | [a],0,_,_,hb =>
  have s0:Blk (wy.setCell ⟨g,0,none⟩ (.int .i64 (x:Nat))) g 114 #[.int .i64 (x:Nat),.int .i64 (a:Nat),.int .i64 ((0:Nat):Int),.int .i64 ((0:Nat):Int),.int .i64 ((1:Nat):Int),.int .u64 (M:Nat),.int .i64 (D:Nat),.int .u16 (T:Nat)]:=hb.set 0 _
  exact s0.set 4 _
 | [a],1,_,_,hb =>
  have s0:Blk (wy.setCell ⟨g,1,none⟩ (.int .i64 (x:Nat))) g 114 #[.int .i64 (a:Nat),.int .i64 (x:Nat),.int .i64 ((0:Nat):Int),.int .i64 ((0:Nat):Int),.int .i64 ((1:Nat):Int),.int .u64 (M:Nat),.int .i64 (D:Nat),.int .u16 (T:Nat)]:=hb.set 1 _
  exact s0.set 4 _
 | [a,b],0,_,_,hb =>
  have s0:Blk (wy.setCell ⟨g,0,none⟩ (.int .i64 (x:Nat))) g 114 #[.int .i64 (x:Nat),.int .i64 (a:Nat),.int .i64 (b:Nat),.int .i64 ((0:Nat):Int),.int .i64 ((2:Nat):Int),.int .u64 (M:Nat),.int .i64 (D:Nat),.int .u16 (T:Nat)]:=hb.set 0 _
  exact s0.set 4 _
 | [a,b],1,_,_,hb =>
  have s0:Blk (wy.setCell ⟨g,1,none⟩ (.int .i64 (x:Nat))) g 114 #[.int .i64 (a:Nat),.int .i64 (x:Nat),.int .i64 (b:Nat),.int .i64 ((0:Nat):Int),.int .i64 ((2:Nat):Int),.int .u64 (M:Nat),.int .i64 (D:Nat),.int .u16 (T:Nat)]:=hb.set 1 _
  exact s0.set 4 _
 | [a,b],2,_,_,hb =>
  have s0:Blk (wy.setCell ⟨g,2,none⟩ (.int .i64 (x:Nat))) g 114 #[.int .i64 (a:Nat),.int .i64 (b:Nat),.int .i64 (x:Nat),.int .i64 ((0:Nat):Int),.int .i64 ((2:Nat):Int),.int .u64 (M:Nat),.int .i64 (D:Nat),.int .u16 (T:Nat)]:=hb.set 2 _
  exact s0.set 4 _
 | [a,b,c],0,_,_,hb =>
  have s0:Blk (wy.setCell ⟨g,0,none⟩ (.int .i64 (x:Nat))) g 114 #[.int .i64 (x:Nat),.int .i64 (a:Nat),.int .i64 (b:Nat),.int .i64 (c:Nat),.int .i64 ((3:Nat):Int),.int .u64 (M:Nat),.int .i64 (D:Nat),.int .u16 (T:Nat)]:=hb.set 0 _
  exact s0.set 4 _
 | [a,b,c],1,_,_,hb =>
  have s0:Blk (wy.setCell ⟨g,1,none⟩ (.int .i64 (x:Nat))) g 114 #[.int .i64 (a:Nat),.int .i64 (x:Nat),.int .i64 (b:Nat),.int .i64 (c:Nat),.int .i64 ((3:Nat):Int),.int .u64 (M:Nat),.int .i64 (D:Nat),.int .u16 (T:Nat)]:=hb.set 1 _
  exact s0.set 4 _
 | [a,b,c],2,_,_,hb =>
  have s0:Blk (wy.setCell ⟨g,2,none⟩ (.int .i64 (x:Nat))) g 114 #[.int .i64 (a:Nat),.int .i64 (b:Nat),.int .i64 (x:Nat),.int .i64 (c:Nat),.int .i64 ((3:Nat):Int),.int .u64 (M:Nat),.int .i64 (D:Nat),.int .u16 (T:Nat)]:=hb.set 2 _
  exact s0.set 4 _
 | [a,b,c],3,_,_,hb =>
  have s0:Blk (wy.setCell ⟨g,3,none⟩ (.int .i64 (x:Nat))) g 114 #[.int .i64 (a:Nat),.int .i64 (b:Nat),.int .i64 (c:Nat),.int .i64 (x:Nat),.int .i64 ((3:Nat):Int),.int .u64 (M:Nat),.int .i64 (D:Nat),.int .u16 (T:Nat)]:=hb.set 3 _
  exact s0.set 4 _
end Go.Proofs.Ytlaljeobdddegaa

namespace Go.Proofs.Ytlaljeobdddegaa
open Go.RowKit Mp
theorem But.cell {g:Nat} {w w':World} (h:But g w w') {p:Addr} {v:Value} (hv:w.cell? p=some v) (hne:p.block≠g):w'.cell? p=some v :=
 h.grown.cell hv (by intro e;exact hne (Option.some.inj e))
theorem dst_sl (wx:World) (g p:Nat) (hp:p≤3):(Instr.sliceAt 110 (.pointer (some ⟨g,0,none⟩)) (some (.int .i64 ((p:Int)+1))) none none).run Try.prog wx = .ok (dstV g p) wx:=by
 rw [run_sliceAt_array_l wx _ _ arr4 .i64 ((p:Int)+1) (by omega) (by rw [arr4l];omega),arr4s]
 show Result.ok (slicedAt _ ((p:Int)+1).toNat _ _ 1) wx=_
 rw [arr4l,show ((p:Int)+1).toNat=p+1 by omega]
 unfold slicedAt dstV
 rw [addL,show 4 - (p+1)=3 - p by omega,Nat.mul_one,Nat.zero_add]
 by_cases h:p=3
 ·rw [if_pos (by omega),if_pos h]
 ·rw [if_neg (by omega),if_neg h]
theorem src_sl (wx:World) (g n p:Nat) (hp:p≤n) (hn:n≤3):(Instr.sliceAt 110 (.pointer (some ⟨g,0,none⟩)) (some (.int .i64 (p:Int))) (some (.int .i64 (n:Int))) none).run Try.prog wx = .ok (srcV g n p) wx:=by
 rw [run_sliceAt_array_lh wx _ _ arr4 .i64 .i64 (p:Int) (n:Int) (by omega) (by omega) (by rw [arr4l];omega),arr4s]
 show Result.ok (slicedAt _ (p:Int).toNat (n:Int).toNat _ 1) wx=_
 rw [arr4l,Int.toNat_natCast,Int.toNat_natCast]
 unfold slicedAt srcV
 rw [addL,if_neg (by omega),Nat.mul_one,Nat.zero_add]
set_option maxRecDepth 100000 in
set_option maxHeartbeats 8000000 in
theorem list_raw (w:World) (b o n:Nat) (q4:w.cell? ⟨b,o+4,none⟩=some (.int .i64 (n:Int))) (h4:n≤4) :
  Calls Try.prog 75 #[.pointer (some ⟨b,o,none⟩)] w fun e w'=>e = .returned (.slice (some ⟨b,o,none⟩) n n)∧w'=w.drewN 1:=by
 have h0:(0:Int)≤(n:Int):=by omega
 have h4I:(n:Int)≤4:=by omega
 have RS:∀ wx:World,(Instr.sliceAt 110 (.pointer (some ⟨b,o,none⟩)) none (some (.int .i64 (n:Int))) (some (.int .i64 (n:Int)))).run Try.prog wx = .ok (.slice (some ⟨b,o,none⟩) n n) wx:=fun wx=>leaves_sl wx b o n h4
 go_enter Try.func75,Try.ntmps75
 go_wp2_with fail
 refine wp_region_noPanic ?_
 refine wp_region_held_drew (S:=fun wz=>wz.cell? ⟨b,o+4,none⟩=some (.int .i64 (n:Int))) (by kernel_rfl) (by exact q4) (fun hHeld=>?_)
 refine tk 0 ?_
 refine tk 1 ?_
 refine tk 2 ?_
 refine tk 3 ?_
 refine tk 4 ?_
 refine tk 5 ?_
 refine tk 6 ?_
 refine tk 7 ?_
 refine tk 8 ?_
 refine tk 9 ?_
 refine tk 10 ?_
 refine tk 11 ?_
 refine tk 12 ?_
 refine wpAnyH_done (by kernel_rfl) ?_ _
 refine NoPanic.normal ?_
 go_wp2
 go_ret
 exact ⟨rfl,rfl⟩
structure JnS (w0:World) (g M D T:Nat) (al bl:List Nat) (k:Nat) (l:List Nat) (w:World):Prop where
 bk:Blk w g 114 (bxA l M D T)
 bw:Below g w0 w
 ris:Ris l
 mem:∀ y,y ∈ l↔y ∈ al∨y ∈ bl.take k
 len:l.length≤4
theorem JnS.to {w0:World} {g M D T:Nat} {al bl:List Nat} {k:Nat} {l:List Nat} {w w':World} (h:JnS w0 g M D T al bl k l w) (hb:Bl w w'):JnS w0 g M D T al bl k l w':=⟨h.bk.below hb,h.bw.trans (hb.mono (Nat.le_of_lt h.bk.lt)),h.ris,h.mem,h.len⟩
theorem JnS.same {w0:World} {g M D T:Nat} {al bl:List Nat} {k x:Nat} {l:List Nat} {w:World} (h:JnS w0 g M D T al bl k l w) (hx:bl[k]?=some x) (hm:x ∈ l) {w':World} (hb:Bl w w'):JnS w0 g M D T al bl (k+1) l w' :=
 ⟨h.bk.below hb,h.bw.trans (hb.mono (Nat.le_of_lt h.bk.lt)),h.ris,fun y=>by
  rw [take_next _ _ _ hx,List.mem_append,←or_assoc,←h.mem y]
  exact ⟨Or.inl,fun hh=>by
   rcases hh with hh | hh
   ·exact hh
   ·rw [List.mem_singleton.1 hh];exact hm⟩,h.len⟩
theorem JnS.done {w0:World} {g M D T:Nat} {al bl:List Nat} {k:Nat} {l:List Nat} {w:World} (h:JnS w0 g M D T al bl k l w) (ra:Ris al) (rb:Ris bl) (hk:bl.length≤k):l=joinL al bl:=by
 refine ris_ext h.ris (joinL_ris ra rb) (fun y=>?_)
 rw [h.mem y,joinL_mem,List.take_of_length_le hk]
theorem JnS.full {w0:World} {g M D T:Nat} {al bl:List Nat} {k x:Nat} {l:List Nat} {w:World} (h:JnS w0 g M D T al bl k l w) (hx:bl[k]?=some x) (hn:x ∉ l) (h4:l.length=4):¬ (joinL al bl).length≤4:=by
 have:=nd_len (C:=x :: l) (D:=joinL al bl) (List.nodup_cons.2 ⟨hn,h.ris.nodup⟩) (fun y hy=>(joinL_mem _ _ _).2 (by
  rcases List.mem_cons.1 hy with rfl | hy
  ·exact Or.inr (List.mem_of_getElem? hx)
  ·rcases (h.mem y).1 hy with h1 | h1
   ·exact Or.inl h1
   ·exact Or.inr (List.mem_of_mem_take h1)))
 rw [List.length_cons] at this
 omega
theorem JnS.num {w0:World} {g M D T:Nat} {al bl:List Nat} {k:Nat} {l:List Nat} {w:World} (h:JnS w0 g M D T al bl k l w):NumR w (some ⟨g,0,none⟩) l:=fun i y hy=>by
 have hi:=(List.getElem?_eq_some_iff.1 hy).1
 have h4:=h.len
 have e:l.getD i 0=y:=by rw [List.getD_eq_getElem?_getD,hy];rfl
 have:i=0∨i=1∨i=2∨i=3:=by omega
 refine ⟨g,0,rfl,?_⟩
 rw [Nat.zero_add,←e]
 rcases this with rfl | rfl | rfl | rfl
 ·exact h.bk.cell (i:=0) rfl
 ·exact h.bk.cell (i:=1) rfl
 ·exact h.bk.cell (i:=2) rfl
 ·exact h.bk.cell (i:=3) rfl
end Go.Proofs.Ytlaljeobdddegaa
