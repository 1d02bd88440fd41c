import Derived.Test.YtcbcenfjigcfkaaGreatDoorK03
set_option maxRecDepth 100000
set_option maxHeartbeats 40000000
namespace Go.Proofs.YtcbcenfjigcfkaaGreatDoor
open Go.RowKit
variable {a b l:Int} {first m n:Nat} {v0:List Bool}
def bN (first:Nat) (hs:List Z) (l:Int):Prop:=0<=l∧l<2*((first:Int)+(hs.length:Int))
def gG (v0:List Bool) (hs:List Z) (l:Int):Bool:=gw (iS v0 hs) l
structure iq (first:Nat) (v0:List Bool):Prop where
 len:v0.length=first
 zero:v0[0]?=some false
structure fU (first:Nat) (hs bA:List Z) (n:Nat):Prop where
 app:∃r,bA=hs++r∧r.length<=n
 ok:bI first bA
theorem fU.refl {hs:List Z} (h:bI first hs) (n:Nat):fU first hs hs n:=⟨⟨[],by simp,by simp⟩,h⟩
theorem fU.trans {a b c:List Z} (h:fU first a b n) (O:fU first b c m):fU first a c (n+m):=by
 obtain⟨r,rfl,ak⟩:=h.app;obtain⟨s,rfl,hs⟩:=O.app;exact⟨⟨r++s,by simp,by simp;omega⟩,O.ok⟩
theorem fU.mono {a b:List Z} (h:fU first a b n) (ag:n<=m):fU first a b m:=by
 obtain⟨r,ak,hl⟩:=h.app;exact⟨⟨r,ak,by omega⟩,h.ok⟩
theorem fU.len {a b:List Z} (h:fU first a b n):a.length<=b.length∧b.length<=a.length+n:=by
 obtain⟨r,rfl,ak⟩:=h.app;simp;omega
theorem fU.inL {a b:List Z} (h:fU first a b n) (hl:bN first a l):bN first b l:=by
 have:=h.len
 unfold bN at *;omega
theorem akz (v:List Bool) (l:List Z):(iS v l).length=v.length+l.length:=by
 induction l generalizing v with
 | nil=>rfl
 | cons a t aA=>unfold iS at *;rw[List.foldl_cons,aA];simp;omega
theorem fU.vl {a b:List Z} (h:fU first a b n) (hl:bN first a l) (L:iq first v0):gG v0 b l=gG v0 a l:=by
 obtain⟨r,rfl,-⟩:=h.app;obtain⟨s,hs⟩:=MO v0 a r;unfold Go.Proofs.YtcbcenfjigcfkaaGreatDoor.gG;rw[hs];exact RR _ _ l hl.1 (by rw[akz,L.len];have:=hl.2;omega)
structure iQ (first:Nat) (hs:List Z) (p:List Z×Int) (n:Nat) (f:List Bool->Bool):Prop where
 gd:fU first hs p.1 n
 inl:bN first p.1 p.2
 val:∀v0,iq first v0->gG v0 p.1 p.2=f v0
theorem bN.flip {hs:List Z} (h:bN first hs l):bN first hs (bu l):=by
 have:=Qp l h.1
 have O:=h.2;have aI:=h.1
 constructor
 ·exact this.1
 ·have e:=this.2.1;omega
theorem rU {hs:List Z} (h:bN first hs l):gG v0 hs (bu l)=!gG v0 hs l:=Xf _ _ h.1
theorem j2 {hs:List Z} (ah:1<=first) (h:bI first hs) (ad:bN first hs a) (D:bN first hs b):iQ first hs (bE first hs a b) 1 (fun v0=>gG v0 hs a&&gG v0 hs b):=by
 obtain⟨F,O,aW,cw⟩:=akv ah h ad D;exact⟨⟨F,O⟩,aW,fun v0 L=>cw v0 L.len L.zero⟩
theorem iQ.flip {hs:List Z} {p:List Z×Int} {f:List Bool->Bool} (h:iQ first hs p n f):iQ first hs (p.1,bu p.2) n (fun v0=>!f v0) :=
 ⟨h.gd,h.inl.flip,fun v0 L=>by show gG v0 p.1 (bu p.2)=_;rw[rU h.inl,h.val v0 L]⟩
theorem iQ.mono {hs:List Z} {p:List Z×Int} {f:List Bool->Bool} (h:iQ first hs p n f) (ag:n<=m):iQ first hs p m f:=⟨h.gd.mono ag,h.inl,h.val⟩
theorem iQ.to {hs:List Z} {p:List Z×Int} {f g:List Bool->Bool} (h:iQ first hs p n f) (af:∀v0,iq first v0->f v0=g v0):iQ first hs p n g:=⟨h.gd,h.inl,fun v0 L=>(h.val v0 L).trans (af v0 L)⟩
theorem iQ.after {a:List Z} {q:List Z} {p:List Z×Int} {f:List Bool->Bool} (h:fU first a q n) (O:iQ first q p m f):iQ first a p (n+m) f:=⟨h.trans O.gd,O.inl,O.val⟩
theorem iQ.known {hs:List Z} (h:bI first hs) (hl:bN first hs l) (n:Nat):iQ first hs (hs,l) n (fun v0=>gG v0 hs l):=⟨fU.refl h n,hl,fun _ _=>rfl⟩
theorem qZ {hs:List Z} (ah:1<=first):bN first hs 0:=by unfold bN;omega
theorem zu {hs:List Z} (ah:1<=first):bN first hs 1:=by unfold bN;omega
theorem ya {hs:List Z} (L:iq first v0):gG v0 hs 0=false:=by
 obtain⟨r,ak⟩:=MO v0 [] hs;rw[List.nil_append] at ak;unfold gG;rw[ak]
 have:iS v0 []=v0:=rfl
 rw[this];unfold gw;rw[show((0:Int) / 2).toNat=0 by omega,mS (by have:=(cr.1 L.zero).1;omega),L.zero];simp
theorem EI {hs:List Z} (ah:1<=first) (L:iq first v0):gG v0 hs 1=true:=by
 have:=rU (v0:=v0) (qZ (hs:=hs) ah)
 rw[ya L] at this;exact this
def lJ (first:Nat) (hs:List Z) (a b:Int):List Z×Int:=((bE first hs (bu a) (bu b)).1,bu (bE first hs (bu a) (bu b)).2)
theorem AO {hs:List Z} (ah:1<=first) (h:bI first hs) (ad:bN first hs a) (D:bN first hs b):iQ first hs (lJ first hs a b) 1 (fun v0=>gG v0 hs a||gG v0 hs b) :=
 (j2 ah h ad.flip D.flip).flip.to (fun v0 _=>by rw[rU ad,rU D];simp)
def ic (first:Nat) (hs:List Z) (a b:Int):List Z×Int :=
 let p:=bE first hs a b
 let q:=bE first p.1 (bu a) (bu b)
 bE first q.1 (bu p.2) (bu q.2)
theorem Jp {hs:List Z} (ah:1<=first) (h:bI first hs) (ad:bN first hs a) (D:bN first hs b):iQ first hs (ic first hs a b) 3 (fun v0=>gG v0 hs a ^^ gG v0 hs b):=by
 have F:=j2 ah h ad D;unfold ic;generalize bE first hs a b=p at *;have O:=j2 ah F.gd.ok (F.gd.inL ad).flip (F.gd.inL D).flip;dsimp only;generalize bE first p.1 (bu a) (bu b)=q at *;have aW:=j2 ah O.gd.ok (O.gd.inL F.inl).flip O.inl.flip;refine(iQ.after (F.gd.trans O.gd) aW).to (fun v0 L=>?_);rw[rU (O.gd.inL F.inl),rU O.inl,O.gd.vl F.inl L,F.val v0 L,O.val v0 L,rU (F.gd.inL ad),rU (F.gd.inL D),F.gd.vl ad L,F.gd.vl D L];cases gG v0 hs a <;> cases gG v0 hs b <;> rfl
def Br (asked t:Int):Int:=if t=asked then 1 else if t=bu asked then 0 else t
def Ah (asked o:Int):Int:=if o=asked then 0 else if o=bu asked then 1 else o
def Af (first:Nat) (hs:List Z) (asked t o:Int):List Z×Int :=
 if t=o then (hs,t)
 else if t=1 then lJ first hs asked o
 else if o=1 then lJ first hs (bu asked) t
 else
  let p:=bE first hs asked t
  let q:=bE first p.1 (bu asked) o
  lJ first q.1 p.2 q.2
def BP (first:Nat) (hs:List Z) (asked t o:Int):List Z×Int:=Af first hs asked (Br asked t) (Ah asked o)
theorem alv {hs:List Z} (ah:1<=first) (h:bI first hs) {asked t o:Int} (aJ:bN first hs asked) (eg:bN first hs t) (aY:bN first hs o):iQ first hs (Af first hs asked t o) 3 (fun v0=>if gG v0 hs asked then gG v0 hs t else gG v0 hs o):=by
 unfold Af;split
 ·next e =>
  subst e;exact(iQ.known h eg 3).to (fun v0 _=>by simp)
 ·split
  ·next e =>
   subst e;exact((AO ah h aJ aY).mono (by omega)).to (fun v0 L=>by rw[EI ah L];cases gG v0 hs asked <;> simp)
  ·split
   ·next e =>
    subst e;exact((AO ah h aJ.flip eg).mono (by omega)).to (fun v0 L=>by rw[EI ah L,rU aJ];cases gG v0 hs asked <;> simp)
   ·have F:=j2 ah h aJ eg;generalize bE first hs asked t=p at *;have O:=j2 ah F.gd.ok (F.gd.inL aJ).flip (F.gd.inL aY);dsimp only;generalize bE first p.1 (bu asked) o=q at *;have aW:=AO ah O.gd.ok (O.gd.inL F.inl) O.inl;refine(iQ.after (F.gd.trans O.gd) aW).to (fun v0 L=>?_);rw[O.gd.vl F.inl L,F.val v0 L,O.val v0 L,rU (F.gd.inL aJ),F.gd.vl aJ L,F.gd.vl aY L];cases gG v0 hs asked <;> simp
theorem Ux {hs:List Z} (ah:1<=first) (h:bI first hs) {asked t o:Int} (aJ:bN first hs asked) (eg:bN first hs t) (aY:bN first hs o):iQ first hs (BP first hs asked t o) 3 (fun v0=>if gG v0 hs asked then gG v0 hs t else gG v0 hs o):=by
 have F:bN first hs (Br asked t)∧∀v0,iq first v0->gG v0 hs asked=true->gG v0 hs (Br asked t)=gG v0 hs t:=by
  unfold Br;split
  ·next e=>subst e;exact⟨zu ah,fun v0 L e=>by rw[EI ah L,e]⟩
  ·split
   ·next e=>subst e;exact⟨qZ ah,fun v0 L e=>by rw[ya L,rU aJ,e];rfl⟩
   ·exact⟨eg,fun _ _ _=>rfl⟩
 have O:bN first hs (Ah asked o)∧∀v0,iq first v0->gG v0 hs asked=false->gG v0 hs (Ah asked o)=gG v0 hs o:=by
  unfold Ah;split
  ·next e=>subst e;exact⟨qZ ah,fun v0 L e=>by rw[ya L,e]⟩
  ·split
   ·next e=>subst e;exact⟨zu ah,fun v0 L e=>by rw[EI ah L,rU aJ,e];rfl⟩
   ·exact⟨aY,fun _ _ _=>rfl⟩
 refine(alv ah h aJ F.1 O.1).to (fun v0 L=>?_);cases e:gG v0 hs asked
 ·simp[O.2 v0 L e]
 ·simp[F.2 v0 L e]
end Go.Proofs.YtcbcenfjigcfkaaGreatDoor
namespace Go.Proofs.YtcbcenfjigcfkaaGreatDoor
def aP:Nat->Nat->List Bool
 | 0,_=>[]
 | w+1,n=>decide (n%2=1)::aP w (n / 2)
theorem rT (w n:Nat):(aP w n).length=w:=by
 induction w generalizing n with
 | zero=>rfl
 | succ w aA=>simp[aP,aA]
theorem tE (w n:Nat):aP w (n%2^w)=aP w n:=by
 induction w generalizing n with
 | zero=>rfl
 | succ w aA =>
  simp only[aP];have F:n%2^(w+1)%2=n%2:=Nat.mod_mod_of_dvd n (by rw[Nat.pow_succ];exact Nat.dvd_mul_left 2 _);have O:n%2^(w+1) / 2=n / 2%2^w:=by
   rw[Nat.pow_succ,Nat.mul_comm,Nat.mod_mul_right_div_self]
  rw[F,O,aA]
theorem agv {w a b:Nat} (h:a%2^w=b%2^w):aP w a=aP w b:=by rw[<-tE w a,h,tE]
theorem OQ (w n k:Nat):(aP w n).drop k=aP (w - k) (n / 2^k):=by
 induction k generalizing w n with
 | zero=>simp
 | succ k aA =>
  cases w with
  | zero=>simp[aP]
  | succ w =>
   simp only[aP,List.drop_succ_cons];rw[aA,Nat.add_sub_add_right,Nat.div_div_eq_div_mul,Nat.pow_succ,Nat.mul_comm]
theorem Lz (w n k:Nat):(aP w n).take k=aP (min k w) n:=by
 induction k generalizing w n with
 | zero=>simp[aP]
 | succ k aA =>
  cases w with
  | zero=>simp[aP]
  | succ w =>
   simp only[aP,List.take_succ_cons];rw[aA,show min (k+1) (w+1)=min k w+1 by omega]
   rfl
theorem OR (w:Nat):aP w 0=List.replicate w false:=by
 induction w with
 | zero=>rfl
 | succ w aA=>simp[aP,aA,List.replicate_succ]
theorem OP (w1 w2 x v:Nat) (J:x<2^w1):aP (w1+w2) (v*2^w1+x)=aP w1 x++aP w2 v:=by
 induction w1 generalizing x with
 | zero =>
  have:x=0:=by simpa using J
  subst this;simp[aP]
 | succ w1 aA =>
  rw[show w1+1+w2=(w1+w2)+1 by omega];simp only[aP,List.cons_append];have aE:2^(w1+1)=2*2^w1:=by rw[Nat.pow_succ,Nat.mul_comm]
  have ko:v*2^(w1+1)=2*(v*2^w1):=by rw[aE,Nat.mul_left_comm]
  have bp:(v*2^(w1+1)+x)%2=x%2:=by rw[ko];omega
  have aS:(v*2^(w1+1)+x) / 2=v*2^w1+x / 2:=by rw[ko];omega
  rw[bp,aS,aA (x / 2) (by rw[aE] at J;omega)]
theorem agw (w I x:Nat) (J:x<2^I):aP w x=(aP I x).take w++List.replicate (w - I) false:=by
 rw[Lz];rcases Nat.le_total w I with h | h
 ·rw[Nat.min_eq_left h,show w - I=0 by omega];simp
 ·rw[Nat.min_eq_right h,<-OR,<-OP I (w - I) x 0 J]
  congr 1
  ·omega
  ·simp
def vc:List Bool->Nat
 | []=>0
 | b::r=>b.toNat+2*vc r
theorem avL (w n:Nat):vc (aP w n)=n%2^w:=by
 induction w generalizing n with
 | zero=>simp[aP,vc,Nat.mod_one]
 | succ w aA =>
  simp only[aP,vc,aA];rw[Nat.pow_succ,Nat.mul_comm (2^w) 2,Nat.mod_mul];rcases wX n with h | h <;> simp[h]
def ul:List Bool->List Bool->Bool->List Bool
 | a::l,b::r,c=>((a ^^ b) ^^ c)::ul l r ((a&&b)||((a ^^ b)&&c))
 | _,_,_=>[]
theorem Uf (w a b:Nat) (c:Bool):ul (aP w a) (aP w b) c=aP w (a+b+c.toNat):=by
 induction w generalizing a b c with
 | zero=>rfl
 | succ w aA =>
  simp only[aP,ul,aA];rcases wX a with ad | ad <;> rcases wX b with D | D <;> cases c <;> simp only[ad,D] <;> refine List.cons_eq_cons.2 ⟨?_,congrArg (aP w) ?_⟩ <;> simp <;> omega
theorem agx (w b:Nat):(aP w b).map (!·)=aP w (2^w - 1 - b%2^w):=by
 induction w generalizing b with
 | zero=>rfl
 | succ w aA =>
  simp only[aP,List.map_cons,aA];have aE:2^(w+1)=2*2^w:=by rw[Nat.pow_succ,Nat.mul_comm]
  have D:b%2^(w+1)=b%2+2*(b / 2%2^w):=by rw[aE,Nat.mod_mul]
  have aB:b / 2%2^w<2^w:=Nat.mod_lt _ (Nat.two_pow_pos w);generalize b / 2%2^w=m at *;rw[D,aE];generalize 2^w=q at *;refine List.cons_eq_cons.2 ⟨?_,congrArg (aP w) (by omega)⟩;rcases wX b with h | h <;> rw[h] <;> simp <;> omega
theorem auU (w a b:Nat) (D:b<2^w) (aw:w<=64):ul (aP w a) ((aP w b).map (!·)) true=aP w (a+(18446744073709551616 - b)):=by
 rw[agx,Uf,Nat.mod_eq_of_lt D];apply agv;have U:(18446744073709551616:Nat)=2^(64 - w)*2^w:=by rw[<-Nat.pow_add,show 64 - w+w=64 by omega]
 have fG:2^w<=18446744073709551616:=q7 (show 0<2 by decide) aw;have F:a+(2^w - 1 - b)+true.toNat=a+(2^w - b):=by simp;omega
 have O:a+(18446744073709551616 - b)=a+(2^w - b)+(2^(64 - w) - 1)*2^w:=by
  rw[Nat.sub_mul,<-U,Nat.one_mul];omega
 rw[F,O,Nat.add_mul_mod_self_right]
def IF:List Bool->List Bool->Bool->Bool
 | a::l,b::r,c=>IF l r ((!a&&b)||(!(a&&!b)&&c))
 | _,_,c=>c
theorem aqH (w a b:Nat) (c:Bool):IF (aP w a) (aP w b) c=(decide (a%2^w<b%2^w)||(decide (a%2^w=b%2^w)&&c)):=by
 induction w generalizing a b c with
 | zero=>simp[aP,IF,Nat.mod_one]
 | succ w aA =>
  simp only[aP,IF,aA];have aE:2^(w+1)=2*2^w:=by rw[Nat.pow_succ,Nat.mul_comm]
  rw[aE,Nat.mod_mul,Nat.mod_mul];generalize a / 2%2^w=x;generalize b / 2%2^w=y;rcases wX a with ad | ad <;> rcases wX b with D | D <;> cases c <;> simp only[ad,D] <;> rw[iI] <;> simp <;> omega
theorem aqY (w a:Nat) (b:Bool):(aP w a).map (fun x=>x&&b)=aP w (a*b.toNat):=by
 cases b
 ·simp[OR,List.eq_replicate_iff,rT]
 ·simp
def Ga (left:List Bool) (all:List Bool) (i:Nat) (bit:Bool):List Bool:=all.take i++ul (all.drop i) ((left.take (left.length - i)).map (fun x=>x&&bit)) false
theorem ark (w a b i:Nat) (hi:i<w) (bit:Bool) (ry:bit=decide (b / 2^i%2=1)):Ga (aP w a) (aP w (a*(b%2^i))) i bit=aP w (a*(b%2^(i+1))):=by
 unfold Ga;rw[rT,Lz,OQ,Lz,aqY,show min (w - i) w=w - i by omega,Uf,show min i w=i by omega];have e:b%2^(i+1)=b%2^i+bit.toNat*2^i:=by
  rw[Nat.pow_succ,Nat.mod_mul,ry];rcases wX (b / 2^i) with h | h <;> rw[h] <;> simp
 rw[e,Nat.mul_add,<-Nat.mul_assoc];generalize a*(b%2^i)=m;have aS:m+a*bit.toNat*2^i=(m / 2^i+a*bit.toNat)*2^i+m%2^i:=by
  rw[Nat.add_mul]
  have:=Nat.div_add_mod m (2^i)
  rw[Nat.mul_comm] at this;omega
 obtain⟨j,rfl⟩:∃j,w=i+j:=⟨w - i,by omega⟩
 rw[aS,OP i j _ _ (Nat.mod_lt _ (Nat.two_pow_pos i)),tE,Nat.add_sub_cancel_left];simp
theorem agy (w n:Nat):aP (w+1) n=aP w n++[decide (n / 2^w%2=1)]:=by
 have h:=OP w 1 (n%2^w) (n / 2^w) (Nat.mod_lt _ (Nat.two_pow_pos w));rw[Nat.mul_comm,Nat.div_add_mod,tE] at h;rw[h];rfl
theorem Yk (w n i:Nat) (hi:i<w):(aP w n)[i]?=some (decide (n / 2^i%2=1)):=by
 have h:=OQ w n i;have e:(aP w n)[i]?=((aP w n).drop i)[0]?:=by rw[vh];rfl
 rw[e,h];obtain⟨j,aT⟩:∃j,w - i=j+1:=⟨w - i - 1,by omega⟩
 rw[aT];rfl
def D0 (left:List Bool):List Bool->Nat->List Bool->List Bool
 | all,_,[]=>all
 | all,i,bit::r=>D0 left (Ga left all i bit) (i+1) r
theorem arj (w a b:Nat) (r:List Bool) (i:Nat) (ak:r=(aP w b).drop i) (hi:i<=w):D0 (aP w a) (aP w (a*(b%2^i))) i r=aP w (a*(b%2^w)):=by
 induction r generalizing i with
 | nil =>
  have:i=w:=by
   have:=congrArg List.length ak
   simp[rT] at this;omega
  subst this;rfl
 | cons bit r aA =>
  have aB:i<w:=by
   have:=congrArg List.length ak
   simp[rT] at this;omega
  have af:=Yk w b i aB;have U:(aP w b).drop i=decide (b / 2^i%2=1)::(aP w b).drop (i+1):=by
   have hl:i<(aP w b).length:=by rw[rT];exact aB
   rw[List.drop_eq_getElem_cons hl];rw[ct hl] at af;rw[Option.some.inj af]
  rw[U] at ak;obtain⟨F,O⟩:=List.cons_eq_cons.1 ak;show D0 _ (Ga _ _ i bit) (i+1) r=_;rw[ark w a b i aB bit F];exact aA (i+1) O aB
theorem ari (w a b:Nat) (D:b<2^w):D0 (aP w a) (List.replicate w false) 0 (aP w b)=aP w (a*b):=by
 have:=arj w a b (aP w b) 0 rfl (cE _)
 rw[Nat.pow_zero,Nat.mod_one,Nat.mul_zero,OR,Nat.mod_eq_of_lt D] at this;exact this
def Sq (l:List Bool) (k:Nat):List Bool:=(List.replicate k false++l).take l.length
def Qh (l:List Bool) (k:Nat):List Bool:=l.drop k++List.replicate (min k l.length) false
theorem avn (w n k:Nat):Sq (aP w n) k=aP w (n*2^k):=by
 unfold Sq
 have:=OP k w 0 n (Nat.two_pow_pos k)
 rw[Nat.add_zero,OR] at this;rw[<-this,rT,Lz,Nat.min_eq_left (by omega)]
theorem alZ (w n k:Nat) (ag:n<2^w):Qh (aP w n) k=aP w (n / 2^k):=by
 unfold Qh;rw[OQ,rT];have aB:n / 2^k<2^(w - k):=by
  rcases Nat.le_total k w with h | h
  ·rw[Nat.div_lt_iff_lt_mul (Nat.two_pow_pos k),<-Nat.pow_add,Nat.sub_add_cancel h];exact ag
  ·have:n / 2^k=0:=Nat.div_eq_of_lt (bk ag (q7 (by decide) h))
   rw[this];exact Nat.two_pow_pos _
 rw[agw w (w - k) (n / 2^k) aB,Lz,show min w (w - k)=w - k by omega,show w - (w - k)=min k w by omega]
theorem Uk (w n:Nat) (ag:n<2^w):(aP w n).any id=decide (n≠0):=by
 induction w generalizing n with
 | zero =>
  have:n=0:=by simpa using ag
  subst this;rfl
 | succ w aA =>
  simp only[aP,List.any_cons,aA (n / 2) (by rw[Nat.pow_succ] at ag;omega)];rw[iI];simp;omega
theorem akr (w n:Nat) (ag:n<2^w):(aP w n).all id=decide (n=2^w - 1):=by
 induction w generalizing n with
 | zero =>
  have:n=0:=by simpa using ag
  subst this;rfl
 | succ w aA =>
  have aE:2^(w+1)=2*2^w:=by rw[Nat.pow_succ,Nat.mul_comm]
  have aJ:=Nat.two_pow_pos w;rw[aE] at ag;simp only[aP,List.all_cons,aA (n / 2) (by omega)];rw[aE,iI];simp;omega
theorem amq (w a b:Nat) (ad:a<2^w) (D:b<2^w):(!(List.zipWith (fun x y=>x ^^ y) (aP w a) (aP w b)).any id)=decide (a=b):=by
 induction w generalizing a b with
 | zero =>
  have F:a=0:=by simpa using ad
  have O:b=0:=by simpa using D
  subst F;subst O;rfl
 | succ w aA =>
  rw[Nat.pow_succ] at ad D
  have:=aA (a / 2) (b / 2) (by omega) (by omega)
  simp only[aP,List.zipWith_cons_cons,List.any_cons,id,Bool.not_or,this];rw[iI];rcases wX a with h | h <;> rcases wX b with O | O <;> simp[h,O] <;> omega
theorem YN (f:Bool->Bool->Bool) (g:Nat->Nat->Nat) (af:∀x y,g x y%2=(f (decide (x%2=1)) (decide (y%2=1))).toNat∧g x y / 2=g (x / 2) (y / 2)) (w a b:Nat):List.zipWith f (aP w a) (aP w b)=aP w (g a b):=by
 induction w generalizing a b with
 | zero=>rfl
 | succ w aA =>
  obtain⟨F,O⟩:=af a b;simp only[aP,List.zipWith_cons_cons,aA,F,O];cases f (decide (a%2=1)) (decide (b%2=1)) <;> rfl
end Go.Proofs.YtcbcenfjigcfkaaGreatDoor
namespace Go.Proofs.YtcbcenfjigcfkaaGreatDoor
open Go.RowKit
def bt (first:Nat) (hs:List Z) (ls:List Int):Prop:=∀l,l∈ls->bN first hs l
def cp (v0:List Bool) (hs:List Z) (ls:List Int):List Bool:=ls.map (gG v0 hs)
theorem fU.allIn {first:Nat} {a b:List Z} {n:Nat} (h:fU first a b n) {ls:List Int} (hl:bt first a ls):bt first b ls:=fun l ae=>h.inL (hl l ae)
theorem fU.vls {first:Nat} {a b:List Z} {n:Nat} (h:fU first a b n) {ls:List Int} (hl:bt first a ls) {v0:List Bool} (L:iq first v0):cp v0 b ls=cp v0 a ls :=
 o8 (fun l ae=>h.vl (hl l ae) L)
theorem bt.tail {first:Nat} {hs:List Z} {a:Int} {ls:List Int} (h:bt first hs (a::ls)):bN first hs a∧bt first hs ls:=⟨h a (qe ..),fun l ae=>h l (qd _ ae)⟩
theorem bt.cons {first:Nat} {hs:List Z} {a:Int} {ls:List Int} (F:bN first hs a) (O:bt first hs ls):bt first hs (a::ls):=fun l ae=>by
 rcases List.mem_cons.1 ae with rfl | ae
 ·exact F
 ·exact O l ae
theorem bt.nil {first:Nat} {hs:List Z}:bt first hs []:=fun l ae=>by cases ae
theorem bt.sub {first:Nat} {hs:List Z} {ls ms:List Int} (h:bt first hs ls) (bA:∀l,l∈ms->l∈ls):bt first hs ms:=fun l ae=>h l (bA l ae)
structure ci (first:Nat) (hs:List Z) (p:List Z×List Int) (n:Nat) (f:List Bool->List Bool):Prop where
 gd:fU first hs p.1 n
 inl:bt first p.1 p.2
 val:∀v0,iq first v0->cp v0 p.1 p.2=f v0
theorem ci.mono {first:Nat} {hs:List Z} {p:List Z×List Int} {n m:Nat} {f:List Bool->List Bool} (h:ci first hs p n f) (ag:n<=m):ci first hs p m f:=⟨h.gd.mono ag,h.inl,h.val⟩
theorem ci.to {first:Nat} {hs:List Z} {p:List Z×List Int} {n:Nat} {f g:List Bool->List Bool} (h:ci first hs p n f) (af:∀v0,iq first v0->f v0=g v0):ci first hs p n g:=⟨h.gd,h.inl,fun v0 L=>(h.val v0 L).trans (af v0 L)⟩
theorem ci.after {first:Nat} {a:List Z} {q:List Z} {p:List Z×List Int} {n m:Nat} {f:List Bool->List Bool} (h:fU first a q n) (O:ci first q p m f):ci first a p (n+m) f:=⟨h.trans O.gd,O.inl,O.val⟩
theorem ci.known {first:Nat} {hs:List Z} (h:bI first hs) {ls:List Int} (hl:bt first hs ls) (n:Nat):ci first hs (hs,ls) n (fun v0=>cp v0 hs ls):=⟨fU.refl h n,hl,fun _ _=>rfl⟩
theorem ci.len {first:Nat} {hs:List Z} {p:List Z×List Int} {n:Nat} {f:List Bool->List Bool} (h:ci first hs p n f) {v0:List Bool} (L:iq first v0):p.2.length=(f v0).length:=by rw[<-h.val v0 L];unfold cp;simp
theorem ci.one {first:Nat} {hs:List Z} {p:List Z×Int} {q:List Z×List Int} {n m:Nat} {f:List Bool->Bool} {g:List Bool->List Bool} (h:iQ first hs p n f) (O:ci first p.1 q m g):ci first hs (q.1,p.2::q.2) (n+m) (fun v0=>f v0::g v0) :=
 ⟨h.gd.trans O.gd,bt.cons (O.gd.inL h.inl) O.inl,fun v0 L=>by
  show gG v0 q.1 p.2::cp v0 q.1 q.2=_;rw[O.gd.vl h.inl L,h.val v0 L,O.val v0 L]⟩
def jb (join:List Z->Int->Int->List Z×Int):List Z->List Int->List Int->List Z×List Int
 | hs,a::l,b::r=>let p:=join hs a b;let q:=jb join p.1 l r;(q.1,p.2::q.2)
 | hs,_,_=>(hs,[])
def E8 (first:Nat) (join:List Z->Int->Int->List Z×Int) (n:Nat) (hZ:Bool->Bool->Bool):Prop:=∀hs a b,bI first hs->bN first hs a->bN first hs b->iQ first hs (join hs a b) n (fun v0=>hZ (gG v0 hs a) (gG v0 hs b))
theorem Fh {first:Nat} (ah:1<=first):E8 first (bE first) 1 (fun x y=>x&&y):=fun _ _ _ h ad D=>j2 ah h ad D
theorem Ou {first:Nat} (ah:1<=first):E8 first (lJ first) 1 (fun x y=>x||y):=fun _ _ _ h ad D=>AO ah h ad D
theorem GH {first:Nat} (ah:1<=first):E8 first (ic first) 3 (fun x y=>x ^^ y):=fun _ _ _ h ad D=>Jp ah h ad D
theorem Fp {first:Nat} {join:List Z->Int->Int->List Z×Int} {n:Nat} {hZ:Bool->Bool->Bool} (aT:E8 first join n hZ) (l r:List Int) (hs:List Z) (h:bI first hs) (hl:bt first hs l) (ak:bt first hs r) :
  ci first hs (jb join hs l r) (n*l.length) (fun v0=>List.zipWith hZ (cp v0 hs l) (cp v0 hs r)):=by
 induction l generalizing r hs with
 | nil=>exact(ci.known h bt.nil _).to (fun v0 _=>by simp[cp])
 | cons a l aA =>
  cases r with
  | nil=>exact(ci.known h bt.nil _).to (fun v0 _=>by simp[cp])
  | cons b r =>
   have F:=aT hs a b h hl.tail.1 ak.tail.1;have O:=aA r (join hs a b).1 F.gd.ok (F.gd.allIn hl.tail.2) (F.gd.allIn ak.tail.2);refine((ci.one F O).mono (by rw[yb,Nat.mul_succ];omega)).to (fun v0 L=>?_);rw[F.gd.vls hl.tail.2 L,F.gd.vls ak.tail.2 L]
   rfl
def xK (first:Nat):List Z->List Int->Int->List Z×List Int
 | hs,a::l,b=>let p:=bE first hs a b;let q:=xK first p.1 l b;(q.1,p.2::q.2)
 | hs,[],_=>(hs,[])
theorem RT {first:Nat} (ah:1<=first) (l:List Int) (b:Int) (hs:List Z) (h:bI first hs) (hl:bt first hs l) (D:bN first hs b) :
  ci first hs (xK first hs l b) l.length (fun v0=>(cp v0 hs l).map (fun x=>x&&gG v0 hs b)):=by
 induction l generalizing hs with
 | nil=>exact ci.known h bt.nil _
 | cons a l aA =>
  have F:=j2 ah h hl.tail.1 D;have O:=aA (bE first hs a b).1 F.gd.ok (F.gd.allIn hl.tail.2) (F.gd.inL D);refine((ci.one F O).mono (by rw[yb];omega)).to (fun v0 L=>?_);rw[F.gd.vls hl.tail.2 L,F.gd.vl D L]
  rfl
def n8 (first:Nat) (hs:List Z) (asked:Int) (l r:List Int):List Z×List Int :=
 jb (fun hs t o=>BP first hs asked t o) hs l r
theorem MV {first:Nat} (ah:1<=first) (asked:Int) (l r:List Int) (hs:List Z) (h:bI first hs) (aJ:bN first hs asked) (hl:bt first hs l) (ak:bt first hs r) (aU:l.length=r.length) :
  ci first hs (n8 first hs asked l r) (3*l.length) (fun v0=>if gG v0 hs asked then cp v0 hs l else cp v0 hs r):=by
 unfold n8
 induction l generalizing r hs with
 | nil =>
  cases r with
  | nil=>exact(ci.known h bt.nil _).to (fun v0 _=>by simp[cp])
  | cons b r=>simp at aU
 | cons a l aA =>
  cases r with
  | nil=>simp at aU
  | cons b r =>
   have F:=Ux ah h aJ hl.tail.1 ak.tail.1;have O:=aA r (BP first hs asked a b).1 F.gd.ok (F.gd.inL aJ) (F.gd.allIn hl.tail.2) (F.gd.allIn ak.tail.2) (by simpa using aU);refine((ci.one F O).mono (by rw[yb,Nat.mul_succ];omega)).to (fun v0 L=>?_);rw[F.gd.vls hl.tail.2 L,F.gd.vls ak.tail.2 L,F.gd.vl aJ L];cases gG v0 hs asked <;> rfl
def pC (first:Nat):List Z->List Int->List Int->Int->List Z×List Int
 | hs,a::l,b::r,c =>
  let Ao:=ic first hs a b
  let s:=ic first Ao.1 Ao.2 c
  let bJ:=bE first s.1 a b
  let ar:=bE first bJ.1 Ao.2 c
  let xo:=lJ first ar.1 bJ.2 ar.2
  let q:=pC first xo.1 l r xo.2
  (q.1,s.2::q.2)
 | hs,_,_,_=>(hs,[])
theorem Sn {first:Nat} (ah:1<=first) (l r:List Int) (c:Int) (hs:List Z) (h:bI first hs) (hl:bt first hs l) (ak:bt first hs r) (ar:bN first hs c) :
  ci first hs (pC first hs l r c) (9*l.length) (fun v0=>ul (cp v0 hs l) (cp v0 hs r) (gG v0 hs c)):=by
 induction l generalizing r hs c with
 | nil=>exact(ci.known h bt.nil _).to (fun v0 _=>by simp[cp,ul])
 | cons a l aA =>
  cases r with
  | nil=>exact(ci.known h bt.nil _).to (fun v0 _=>by simp[cp,ul])
  | cons b r =>
   have F:=Jp ah h hl.tail.1 ak.tail.1;unfold pC;dsimp only;generalize ic first hs a b=Ao at *;have O:=Jp ah F.gd.ok F.inl (F.gd.inL ar);have bK:=F.gd.trans O.gd;generalize ic first Ao.1 Ao.2 c=s at *;have aW:=j2 ah O.gd.ok (bK.inL hl.tail.1) (bK.inL ak.tail.1);have h7:=bK.trans aW.gd;generalize bE first s.1 a b=bJ at *;have cw:=j2 ah aW.gd.ok ((O.gd.trans aW.gd).inL F.inl) (h7.inL ar);have lS:=h7.trans cw.gd;generalize bE first bJ.1 Ao.2 c=yA at *;have hY:=AO ah cw.gd.ok (cw.gd.inL aW.inl) cw.inl;have mW:=lS.trans hY.gd;generalize lJ first yA.1 bJ.2 yA.2=xo at *;have mX:=aA r xo.2 xo.1 hY.gd.ok (mW.allIn hl.tail.2) (mW.allIn ak.tail.2) hY.inl;have nt:iQ first hs (xo.1,s.2) (3+3+1+1+1) (fun v0=>(gG v0 hs a ^^ gG v0 hs b) ^^ gG v0 hs c):=by
    refine⟨mW,((aW.gd.trans cw.gd).trans hY.gd).inL O.inl,fun v0 L=>?_⟩;show gG v0 xo.1 s.2=_;rw[((aW.gd.trans cw.gd).trans hY.gd).vl O.inl L,O.val v0 L,F.val v0 L,F.gd.vl ar L]
   refine((ci.one nt mX).mono (by rw[yb,Nat.mul_succ];omega)).to (fun v0 L=>?_);rw[mW.vls hl.tail.2 L,mW.vls ak.tail.2 L,hY.val v0 L,cw.gd.vl aW.inl L,aW.val v0 L,cw.val v0 L,bK.vl hl.tail.1 L,bK.vl ak.tail.1 L,(O.gd.trans aW.gd).vl F.inl L,F.val v0 L,h7.vl ar L]
   rfl
def zz (first:Nat):List Z->List Int->List Int->Int->List Z×Int
 | hs,a::l,b::r,is =>
  let p:=bE first hs (bu a) b
  let q:=bE first p.1 a (bu b)
  let s:=bE first q.1 (bu q.2) is
  let o:=lJ first s.1 p.2 s.2
  zz first o.1 l r o.2
 | hs,_,_,is=>(hs,is)
theorem aqI {first:Nat} (ah:1<=first) (l r:List Int) (is:Int) (hs:List Z) (h:bI first hs) (hl:bt first hs l) (ak:bt first hs r) (hi:bN first hs is) :
  iQ first hs (zz first hs l r is) (4*l.length) (fun v0=>IF (cp v0 hs l) (cp v0 hs r) (gG v0 hs is)):=by
 induction l generalizing r hs is with
 | nil=>exact(iQ.known h hi _).to (fun v0 _=>by simp[cp,IF])
 | cons a l aA =>
  cases r with
  | nil=>exact(iQ.known h hi _).to (fun v0 _=>by simp[cp,IF])
  | cons b r =>
   have F:=j2 ah h hl.tail.1.flip ak.tail.1;unfold zz;dsimp only;generalize bE first hs (bu a) b=p at *;have O:=j2 ah F.gd.ok (F.gd.inL hl.tail.1) (F.gd.inL ak.tail.1).flip;have bK:=F.gd.trans O.gd;generalize bE first p.1 a (bu b)=q at *;have aW:=j2 ah O.gd.ok O.inl.flip (bK.inL hi);have h7:=bK.trans aW.gd;generalize bE first q.1 (bu q.2) is=s at *;have cw:=AO ah aW.gd.ok ((O.gd.trans aW.gd).inL F.inl) aW.inl;have lS:=h7.trans cw.gd;generalize lJ first s.1 p.2 s.2=o at *;have hY:=aA r o.2 o.1 cw.gd.ok (lS.allIn hl.tail.2) (lS.allIn ak.tail.2) cw.inl;refine((iQ.after lS hY).mono (by rw[yb,Nat.mul_succ];omega)).to (fun v0 L=>?_);rw[lS.vls hl.tail.2 L,lS.vls ak.tail.2 L,cw.val v0 L,(O.gd.trans aW.gd).vl F.inl L,F.val v0 L,aW.val v0 L,rU O.inl,O.val v0 L,rU hl.tail.1,rU (F.gd.inL ak.tail.1),F.gd.vl hl.tail.1 L,F.gd.vl ak.tail.1 L,bK.vl hi L]
   rfl
def o4 (join:List Z->Int->Int->List Z×Int):List Z->List Int->List Z×List Int
 | hs,a::b::r=>let p:=join hs a b;let q:=o4 join p.1 r;(q.1,p.2::q.2)
 | hs,[a]=>(hs,[a])
 | hs,[]=>(hs,[])
def Oy (hZ:Bool->Bool->Bool):List Bool->List Bool
 | a::b::r=>hZ a b::Oy hZ r
 | [a]=>[a]
 | []=>[]
theorem R9 (join:List Z->Int->Int->List Z×Int) (hs:List Z) (l:List Int):(o4 join hs l).2.length=(l.length+1) / 2:=by
 induction hs,l using o4.induct (join:=join) with
 | case1 hs a b r p aA=>simp only[o4,List.length_cons];rw[aA];omega
 | case2 hs a=>simp[o4]
 | case3 hs=>simp[o4]
theorem afN {first:Nat} {join:List Z->Int->Int->List Z×Int} {n:Nat} {hZ:Bool->Bool->Bool} (aT:E8 first join n hZ) (hs:List Z) (l:List Int) (h:bI first hs) (hl:bt first hs l) :
  ci first hs (o4 join hs l) (n*(l.length / 2)) (fun v0=>Oy hZ (cp v0 hs l)):=by
 induction hs,l using o4.induct (join:=join) with
 | case1 hs a b r p aA =>
  have F:=aT hs a b h hl.tail.1 hl.tail.2.tail.1;have O:=aA F.gd.ok (F.gd.allIn hl.tail.2.tail.2);refine((ci.one F O).mono ?_).to (fun v0 L=>?_)
  ·simp only[List.length_cons];rw[show(r.length+1+1) / 2=r.length / 2+1 by omega,Nat.mul_succ];omega
  ·rw[F.gd.vls hl.tail.2.tail.2 L];rfl
 | case2 hs a=>exact(ci.known h hl _).to (fun v0 _=>rfl)
 | case3 hs=>exact(ci.known h hl _).to (fun v0 _=>rfl)
theorem atD {hZ:Bool->Bool->Bool} {e:Bool} (ad:∀a b c,hZ (hZ a b) c=hZ a (hZ b c)) (l:List Bool):(Oy hZ l).foldr hZ e=l.foldr hZ e:=by
 induction l using Oy.induct with
 | case1 a b r aA=>simp only[Oy,List.foldr_cons,aA,ad]
 | case2 a=>rfl
 | case3=>rfl
def sN (join:List Z->Int->Int->List Z×Int) (Xu:Int):Nat->List Z->List Int->List Z×Int
 | 0,hs,l=>(hs,l.headD Xu)
 | n+1,hs,l=>if l.length<=1 then (hs,l.headD Xu) else sN join Xu n (o4 join hs l).1 (o4 join hs l).2
theorem Kf {first:Nat} {join:List Z->Int->Int->List Z×Int} {n:Nat} {hZ:Bool->Bool->Bool} {e:Bool} {no_:Int} (aT:E8 first join n hZ) (ad:∀a b c,hZ (hZ a b) c=hZ a (hZ b c)) (ay:∀a,hZ a e=a) (ag:∀hs,bN first hs no_) (cb:∀v0 hs,iq first v0->gG v0 hs no_=e) (fuel:Nat) (hs:List Z) (l:List Int) (h:bI first hs) (hl:bt first hs l) (ah:l.length<=fuel+1) :
  iQ first hs (sN join no_ fuel hs l) (n*(l.length - 1)) (fun v0=>(cp v0 hs l).foldr hZ e):=by
 have agk:∀(hs:List Z) (l:List Int),bI first hs->bt first hs l->l.length<=1->∀m,iQ first hs (hs,l.headD no_) m (fun v0=>(cp v0 hs l).foldr hZ e):=by
  intro hs l h hl F m
  match l,F with
  | [],_=>exact(iQ.known h (ag hs) m).to (fun v0 L=>cb v0 hs L)
  | [a],_=>exact(iQ.known h hl.tail.1 m).to (fun v0 L=>(ay _).symm)
 induction fuel generalizing hs l with
 | zero=>exact agk hs l h hl (by omega) _
 | succ fuel aA =>
  unfold sN;split
  ·next F=>exact agk hs l h hl F _
  ·next F =>
   have aE:=afN aT hs l h hl;have aU:=R9 join hs l;generalize o4 join hs l=p at *;have O:=aA p.1 p.2 aE.gd.ok aE.inl (by omega);refine((iQ.after aE.gd O).mono ?_).to (fun v0 L=>?_)
   ·rw[<-Nat.mul_add,aU];exact Nat.mul_le_mul_left n (by omega)
   ·rw[aE.val v0 L,atD ad]
def mQ (first:Nat) (hs:List Z) (l:List Int):List Z×Int:=sN (lJ first) 0 l.length hs l
def Ab (first:Nat) (hs:List Z) (l:List Int):List Z×Int:=sN (bE first) 1 l.length hs l
def AN (first:Nat) (hs:List Z) (l:List Int):List Z×Int:=sN (ic first) 0 l.length hs l
theorem amS (l:List Bool):l.foldr (fun x y=>x||y) false=l.any id:=by
 induction l with
 | nil=>rfl
 | cons a r aA=>simp only[List.foldr_cons,List.any_cons,aA,id]
theorem amR (l:List Bool):l.foldr (fun x y=>x&&y) true=l.all id:=by
 induction l with
 | nil=>rfl
 | cons a r aA=>simp only[List.foldr_cons,List.all_cons,aA,id]
theorem CA {first:Nat} (ah:1<=first) {hs:List Z} {l:List Int} (h:bI first hs) (hl:bt first hs l):iQ first hs (mQ first hs l) (l.length - 1) (fun v0=>(cp v0 hs l).any id) :=
 ((Kf (Ou ah) (fun a b c=>by cases a <;> cases b <;> cases c <;> rfl) (fun a=>by cases a <;> rfl) (fun _=>qZ ah) (fun _ _ L=>ya L) l.length hs l h hl (by omega)).mono (by omega)).to (fun v0 _=>amS _)
theorem aku {first:Nat} (ah:1<=first) {hs:List Z} {l:List Int} (h:bI first hs) (hl:bt first hs l):iQ first hs (Ab first hs l) (l.length - 1) (fun v0=>(cp v0 hs l).all id) :=
 ((Kf (Fh ah) (fun a b c=>by cases a <;> cases b <;> cases c <;> rfl) (fun a=>by cases a <;> rfl) (fun _=>zu ah) (fun _ _ L=>EI ah L) l.length hs l h hl (by omega)).mono (by omega)).to (fun v0 _=>amR _)
theorem as2 {first:Nat} (ah:1<=first) {hs:List Z} {l:List Int} (h:bI first hs) (hl:bt first hs l):iQ first hs (AN first hs l) (3*(l.length - 1)) (fun v0=>(cp v0 hs l).foldr (fun x y=>x ^^ y) false) :=
 Kf (GH ah) (fun a b c=>by cases a <;> cases b <;> cases c <;> rfl) (fun a=>by cases a <;> rfl) (fun _=>qZ ah) (fun _ _ L=>ya L) l.length hs l h hl (by omega)
theorem LI (v0:List Bool) (hs:List Z) (l:List Int) (k:Nat):cp v0 hs (l.take k)=(cp v0 hs l).take k:=by unfold cp;rw[List.map_take]
theorem SH (v0:List Bool) (hs:List Z) (l:List Int) (k:Nat):cp v0 hs (l.drop k)=(cp v0 hs l).drop k:=by unfold cp;rw[List.map_drop]
theorem OW (v0:List Bool) (hs:List Z) (l r:List Int):cp v0 hs (l++r)=cp v0 hs l++cp v0 hs r:=by unfold cp;rw[g1]
theorem oj (v0:List Bool) (hs:List Z) (l:List Int):(cp v0 hs l).length=l.length:=by unfold cp;simp
theorem SI {first:Nat} {hs:List Z} {v0:List Bool} (L:iq first v0) (k:Nat):cp v0 hs (List.replicate k 0)=List.replicate k false:=by unfold cp;rw[List.map_replicate,ya L]
theorem bt.no {first:Nat} {hs:List Z} (ah:1<=first) (k:Nat):bt first hs (List.replicate k 0):=fun l ae=>by rw[(List.mem_replicate.1 ae).2];exact qZ ah
theorem bt.app {first:Nat} {hs:List Z} {l r:List Int} (F:bt first hs l) (O:bt first hs r):bt first hs (l++r):=fun x ae=>by
 rcases o7.1 ae with ae | ae
 ·exact F x ae
 ·exact O x ae
theorem bt.take {first:Nat} {hs:List Z} {l:List Int} (h:bt first hs l) (k:Nat):bt first hs (l.take k):=h.sub fun _ ae=>su ae
theorem bt.drop {first:Nat} {hs:List Z} {l:List Int} (h:bt first hs l) (k:Nat):bt first hs (l.drop k):=h.sub fun _ ae=>List.mem_of_mem_drop ae
def q3 (first:Nat) (left:List Int):List Z->List Int->Nat->List Int->List Z×List Int
 | hs,all,_,[]=>(hs,all)
 | hs,all,i,bit::r =>
  let m:=xK first hs (left.take (left.length - i)) bit
  let s:=pC first m.1 (all.drop i) m.2 0
  q3 first left s.1 (all.take i++s.2) (i+1) r
theorem XF {first:Nat} (ah:1<=first) (left:List Int) (r:List Int) (i:Nat) (all:List Int) (hs:List Z) (h:bI first hs) (hl:bt first hs left) (ak:bt first hs r) (ad:bt first hs all) (aU:all.length=left.length) :
  ci first hs (q3 first left hs all i r) (10*left.length*r.length) (fun v0=>D0 (cp v0 hs left) (cp v0 hs all) i (cp v0 hs r)):=by
 induction r generalizing i all hs with
 | nil=>exact(ci.known h ad _).to (fun v0 _=>rfl)
 | cons bit r aA =>
  unfold q3;dsimp only;have F:=RT ah (left.take (left.length - i)) bit hs h (hl.take _) ak.tail.1;generalize xK first hs (left.take (left.length - i)) bit=m at *;have O:=Sn ah (all.drop i) m.2 0 m.1 F.gd.ok (F.gd.allIn (ad.drop i)) F.inl (qZ ah);have bK:=F.gd.trans O.gd;generalize pC first m.1 (all.drop i) m.2 0=s at *;have Ce:∃v0,iq first v0:=⟨List.replicate first false,by simp,by rw[List.getElem?_replicate,if_pos (by omega)]⟩
  obtain⟨az,iT⟩:=Ce;have rF:m.2.length=left.length - i:=by
   have:=F.len iT
   simp[oj] at this;omega
  have akm:∀(x y:List Bool) (c:Bool),(ul x y c).length=min x.length y.length:=by
   intro x
   induction x with
   | nil=>intro y c;simp[ul]
   | cons a x apP =>
    intro y c;cases y with
    | nil=>simp[ul]
    | cons b y=>simp only[ul,List.length_cons,apP];omega
  have pv:s.2.length=left.length - i:=by
   have:=O.len iT
   rw[akm,oj,oj,rF] at this;simp at this;omega
  have aW:=aA (i+1) (all.take i++s.2) s.1 O.gd.ok (bK.allIn hl) (bK.allIn ak.tail.2) ((bK.allIn (ad.take i)).app O.inl) (by simp[pv];omega);refine((ci.after bK aW).mono ?_).to (fun v0 L=>?_)
  ·simp only[List.length_take,List.length_drop,List.length_cons];have e:min (left.length - i) left.length<=left.length:=Nat.min_le_right _ _;rw[Nat.mul_succ];generalize 10*left.length*r.length=z;omega
  ·rw[bK.vls hl L,bK.vls ak.tail.2 L,OW,bK.vls (ad.take i) L,O.val v0 L,F.val v0 L,F.gd.vls (ad.drop i) L,LI,SH,LI,ya L];show D0 _ _ _ _=D0 (cp v0 hs left) (Ga (cp v0 hs left) (cp v0 hs all) i (gG v0 hs bit)) (i+1) (cp v0 hs r);unfold Ga;rw[oj]
def py (up:Bool) (l:List Int) (k:Nat):List Int:=if up then (List.replicate k 0++l).take l.length else l.drop k++List.replicate (min k l.length) 0
def II (up:Bool) (l:List Bool) (k:Nat):List Bool:=if up then Sq l k else Qh l k
theorem Ol (up:Bool) (l:List Int) (k:Nat):(py up l k).length=l.length:=by unfold py;cases up <;> simp <;> omega
theorem afc {first:Nat} {hs:List Z} (ah:1<=first) (up:Bool) {l:List Int} (hl:bt first hs l) (k:Nat):bt first hs (py up l k):=by
 unfold py;cases up
 ·exact(hl.drop k).app (bt.no ah _)
 ·exact((bt.no ah _).app hl).take _
theorem ard {first:Nat} {hs:List Z} {v0:List Bool} (L:iq first v0) (up:Bool) (l:List Int) (k:Nat):cp v0 hs (py up l k)=II up (cp v0 hs l) k:=by
 unfold py II Sq Qh;cases up
 ·simp only[Bool.false_eq_true,if_false];rw[OW,SH,SI L,oj]
 ·simp only[if_true];rw[LI,OW,SI L,oj]
def tC (first:Nat) (up:Bool) (I:Nat):List Z->Nat->List Int->List Int->List Z×List Int
 | hs,_,[],all=>(hs,all)
 | hs,i,bit::r,all =>
  if I<=2^i then
   let s:=mQ first hs (bit::r)
   xK first s.1 all (bu s.2)
  else
   let q:=n8 first hs bit (py up all (2^i)) all
   tC first up I q.1 (i+1) r q.2
def Bp (up:Bool) (I:Nat):Nat->List Bool->List Bool->List Bool
 | _,[],all=>all
 | i,bit::r,all=>if I<=2^i then all.map (fun x=>x&&!((bit::r).any id)) else Bp up I (i+1) r (if bit then II up all (2^i) else all)
theorem agh {first:Nat} (ah:1<=first) (up:Bool) (I:Nat) (av:I<=32) (r:List Int) (i:Nat) (hi:i<=5) (all:List Int) (hs:List Z) (h:bI first hs) (ak:bt first hs r) (ad:bt first hs all) (aU:all.length=I) :
  ci first hs (tC first up I hs i r all) (3*I*(5 - i)+I+r.length) (fun v0=>Bp up I i (cp v0 hs r) (cp v0 hs all)):=by
 induction r generalizing i all hs with
 | nil=>exact(ci.known h ad _).to (fun v0 _=>rfl)
 | cons bit r aA =>
  unfold tC;split
  ·next ar =>
   have F:=CA ah h ak;dsimp only;generalize mQ first hs (bit::r)=s at *;have O:=RT ah all (bu s.2) s.1 F.gd.ok (F.gd.allIn ad) F.inl.flip;refine((ci.after F.gd O).mono ?_).to (fun v0 L=>?_)
   ·rw[aU];generalize 3*I*(5 - i)=z;omega
   ·rw[F.gd.vls ad L,rU F.inl,F.val v0 L];show _=Bp up I i (gG v0 hs bit::cp v0 hs r) (cp v0 hs all);unfold Bp;rw[if_pos ar]
    rfl
  ·next ar =>
   have VR:i<=4:=by
    refine Nat.le_of_not_lt fun hY=>ar ?_
    have:2^5<=2^i:=q7 (by decide) hY
    omega
   have F:=MV ah bit (py up all (2^i)) all hs h ak.tail.1 (afc ah up ad _) ad (Ol up all _);dsimp only;have Ce:∃v0,iq first v0:=⟨List.replicate first false,by simp,by rw[List.getElem?_replicate,if_pos (by omega)]⟩
   obtain⟨az,iT⟩:=Ce;have Az:(n8 first hs bit (py up all (2^i)) all).2.length=I:=by
    rw[F.len iT];split
    ·rw[oj,Ol,aU]
    ·rw[oj,aU]
   generalize n8 first hs bit (py up all (2^i)) all=q at *;have O:=aA (i+1) (by omega) q.2 q.1 F.gd.ok (F.gd.allIn ak.tail.2) F.inl Az;refine((ci.after F.gd O).mono ?_).to (fun v0 L=>?_)
   ·rw[Ol,aU,yb];rw[show 5 - i=(5 - (i+1))+1 by omega,Nat.mul_add (3*I)];generalize 3*I*(5 - (i+1))=z;omega
   ·rw[F.gd.vls ak.tail.2 L,F.val v0 L,ard L];show _=Bp up I i (gG v0 hs bit::cp v0 hs r) (cp v0 hs all);rw[show Bp up I i (gG v0 hs bit::cp v0 hs r) (cp v0 hs all)=Bp up I (i+1) (cp v0 hs r) (if gG v0 hs bit then II up (cp v0 hs all) (2^i) else cp v0 hs all) by rw[Bp,if_neg ar]]
def uQ (up:Bool) (x c:Nat):Nat:=if up then x*2^c else x / 2^c
theorem arb (up:Bool) (I x c k:Nat) (J:x<2^I):II up (aP I (uQ up x c)) k=aP I (uQ up x (c+k)):=by
 unfold II uQ;cases up
 ·simp only[Bool.false_eq_true,if_false];rw[alZ _ _ _ (Nat.lt_of_le_of_lt (Nat.div_le_self _ _) J),Nat.div_div_eq_div_mul,Nat.pow_add]
 ·simp only[if_true];rw[avn,Nat.mul_assoc,Nat.pow_add]
theorem UL (up:Bool) (I x c:Nat) (J:x<2^I) (ar:I<=c):aP I (uQ up x c)=List.replicate I false:=by
 rw[<-OR];apply agv;unfold uQ;cases up
 ·simp only[Bool.false_eq_true,if_false];rw[Nat.div_eq_of_lt (bk J (q7 (by decide) ar))]
 ·simp only[if_true];obtain⟨d,rfl⟩:∃d,c=d+I:=⟨c - I,by omega⟩
  rw[Nat.pow_add,<-Nat.mul_assoc,Nat.mul_mod_left,Nat.zero_mod]
theorem auC (up:Bool) (I x C c:Nat) (J:x<2^I) (ar:c<2^C) (r:List Bool) (i:Nat) (ak:r=aP (C - i) (c / 2^i)):Bp up I i r (aP I (uQ up x (c%2^i)))=aP I (uQ up x c):=by
 induction r generalizing i with
 | nil =>
  have aI:C - i=0:=by
   have:=congrArg List.length ak
   rw[rT] at this;exact this.symm
  have:c<2^i:=bk ar (q7 (by decide) (by omega))
  rw[Nat.mod_eq_of_lt this];rfl
 | cons bit r aA =>
  obtain⟨n,ag⟩:∃n,C - i=n+1:=by
   have:=congrArg List.length ak
   rw[rT,yb] at this;exact⟨_,this.symm⟩
  have an2:c / 2^i<2^(C - i):=by
   rw[Nat.div_lt_iff_lt_mul (Nat.two_pow_pos i),<-Nat.pow_add,Nat.sub_add_cancel (by omega)];exact ar
  unfold Bp;split
  ·next av =>
   rw[ak,Uk _ _ an2];by_cases aI:c / 2^i=0
   ·have:c<2^i:=by
     rcases Nat.div_eq_zero_iff.1 aI with h | h
     ·exact absurd h (Nat.ne_of_gt (Nat.two_pow_pos i))
     ·exact h
    rw[Nat.mod_eq_of_lt this,aI];simp
   ·have cQ:I<=c:=by
     have:2^i<=c:=by
      refine Nat.le_of_not_lt fun h=>aI (Nat.div_eq_of_lt h)
     omega
    rw[UL up I x c J cQ];simp[aI,List.eq_replicate_iff,rT]
  ·rw[ag] at ak;obtain⟨D,Wn⟩:=List.cons_eq_cons.1 ak;have e:c%2^(i+1)=c%2^i+bit.toNat*2^i:=by
    rw[Nat.pow_succ,Nat.mod_mul,D];rcases wX (c / 2^i) with h | h <;> rw[h] <;> simp
   have Av:(if bit=true then II up (aP I (uQ up x (c%2^i))) (2^i) else aP I (uQ up x (c%2^i)))=aP I (uQ up x (c%2^(i+1))):=by
    cases bit
    ·rw[e];simp
    ·rw[if_pos rfl,arb _ _ _ _ _ J,e];simp
   rw[Av];refine aA (i+1) ?_;rw[Wn,show C - (i+1)=n by omega,Nat.pow_succ,Nat.div_div_eq_div_mul]
theorem auD (up:Bool) (I x C c:Nat) (J:x<2^I) (ar:c<2^C):Bp up I 0 (aP C c) (aP I x)=aP I (uQ up x c):=by
 have:=auC up I x C c J ar (aP C c) 0 (by simp)
 rw[Nat.pow_zero,Nat.mod_one] at this;have e:uQ up x 0=x:=by unfold uQ;cases up <;> simp
 rw[e] at this;exact this
def xl:Nat->Nat->Nat->Nat
 | 0,b,_=>b
 | n+1,b,words=>if 2^b<words then xl n (b+1) words else b
def rq (words:Nat):Nat:=xl words 0 words
theorem akW (n b words:Nat) (h:words<=b+n):words<=2^xl n b words:=by
 induction n generalizing b with
 | zero=>exact bL h (Nat.le_of_lt (by rw[Nat.add_zero];exact Nat.lt_two_pow_self))
 | succ n aA =>
  unfold xl;split
  ·exact aA (b+1) (by omega)
  ·next ar=>omega
theorem akX (n b words j:Nat) (D:b<=j) (aT:j<xl n b words):2^j<words:=by
 induction n generalizing b with
 | zero=>unfold xl at aT;omega
 | succ n aA =>
  unfold xl at aT;split at aT
  ·next ar =>
   rcases Nat.lt_or_ge b j with h | h
   ·exact aA (b+1) h aT
   ·have:b=j:=by omega
    subst this;exact ar
  ·omega
theorem abQ (words:Nat):words<=2^rq words:=akW words 0 words (by omega)
theorem ak1 {words j:Nat} (aT:j<rq words):2^j<words:=akX words 0 words j (cE _) aT
def o2 (h9:Bool) (z m:Nat):List Bool:=(List.range m).map (fun k=>h9&&decide (z=k))
theorem Xd (h9:Bool) (z m:Nat):o2 h9 z (m+1)=o2 h9 z m++[h9&&decide (z=m)]:=by unfold o2;rw[List.range_succ,g1];rfl
theorem aqK (h9:Bool) (z m n:Nat) (h:n<=m):(o2 h9 z m).take n=o2 h9 z n:=by
 unfold o2;rw[<-List.map_take,List.take_range,Nat.min_eq_left h]
def Du (bit:Bool):List Bool->List Bool
 | []=>[]
 | x::r=>(x&&!bit)::(x&&bit)::Du bit r
theorem anM (bit:Bool) (a b:List Bool):Du bit (a++b)=Du bit a++Du bit b:=by
 induction a with
 | nil=>rfl
 | cons x r aA=>simp only[List.cons_append,Du,aA]
theorem anQ (h9:Bool) (z m:Nat) (bit:Bool):Du bit (o2 h9 z m)=o2 h9 (2*z+bit.toNat) (2*m):=by
 induction m with
 | zero=>rfl
 | succ m aA =>
  rw[Xd,anM,aA,show 2*(m+1)=2*m+1+1 by omega,Xd,Xd,List.append_assoc]
  congr 1
  show[((h9&&decide (z=m))&&!bit),((h9&&decide (z=m))&&bit)]=[h9&&decide (2*z+bit.toNat=2*m),h9&&decide (2*z+bit.toNat=2*m+1)]
  have F:decide (2*z+bit.toNat=2*m)=(decide (z=m)&&!bit):=by cases bit <;> simp <;> omega
  have O:decide (2*z+bit.toNat=2*m+1)=(decide (z=m)&&bit):=by cases bit <;> simp <;> omega
  rw[F,O,Bool.and_assoc,Bool.and_assoc]
def lE (first:Nat) (bit:Int):List Z->List Int->List Z×List Int
 | hs,[]=>(hs,[])
 | hs,l::r =>
  let p:=bE first hs l (bu bit)
  let q:=bE first p.1 l bit
  let z:=lE first bit q.1 r
  (z.1,p.2::q.2::z.2)
theorem Kx {first:Nat} (ah:1<=first) (bit:Int) (l:List Int) (hs:List Z) (h:bI first hs) (hl:bt first hs l) (D:bN first hs bit) :
  ci first hs (lE first bit hs l) (2*l.length) (fun v0=>Du (gG v0 hs bit) (cp v0 hs l)):=by
 induction l generalizing hs with
 | nil=>exact ci.known h bt.nil _
 | cons a l aA =>
  have F:=j2 ah h hl.tail.1 D.flip;unfold lE;dsimp only;generalize bE first hs a (bu bit)=p at *;have O:=j2 ah F.gd.ok (F.gd.inL hl.tail.1) (F.gd.inL D);have bK:=F.gd.trans O.gd;generalize bE first p.1 a bit=q at *;have aW:=aA q.1 O.gd.ok (bK.allIn hl.tail.2) (bK.inL D);refine((ci.one F (ci.one O aW)).mono (by rw[yb];omega)).to (fun v0 L=>?_);rw[bK.vls hl.tail.2 L,bK.vl D L,F.gd.vl hl.tail.1 L,F.gd.vl D L,rU D]
  rfl
def DX (first words:Nat) (ie:List Int):Nat->List Z->List Int->List Z×List Int
 | 0,hs,all=>(hs,all)
 | i+1,hs,all =>
  let q:=lE first (ie.getD i 0) hs all
  DX first words ie i q.1 (q.2.take ((words - 1) / 2^i+1))
def IL (first:Nat) (hs:List Z) (bits:Nat) (ie:List Int) (vF:Int):List Z×Int :=
 if bits<ie.length then
  let s:=mQ first hs (ie.drop bits)
  bE first s.1 vF (bu s.2)
 else (hs,vF)
def nT (first:Nat) (hs:List Z) (words:Nat) (ie:List Int) (vF:Int):List Z×List Int :=
 DX first words ie (rq words) (IL first hs (rq words) ie vF).1 [(IL first hs (rq words) ie vF).2]
theorem anN (b:Bool) (l:List Bool):(Du b l).length=2*l.length:=by
 induction l with
 | nil=>rfl
 | cons a r aA=>simp only[Du,List.length_cons,aA];omega
theorem uq {first:Nat} (ah:1<=first):∃v0,iq first v0:=⟨List.replicate first false,by simp,by rw[List.getElem?_replicate,if_pos (by omega)]⟩
theorem aqL {first:Nat} (ah:1<=first) (words:Nat) (ie:List Int) (i:Nat) (hi:i<=rq words) (all:List Int) (hs:List Z) (h:bI first hs) (mZ:bt first hs ie) (ad:bt first hs all) (aU:all.length=(words - 1) / 2^i+1) (A:List Bool->Nat) (h9:List Bool->Bool) (C:Nat) (eu:ie.length=C)
  (gV:∀v0,iq first v0->cp v0 hs ie=aP C (A v0)∧A v0<2^C) (L:∀v0,iq first v0->cp v0 hs all=o2 (h9 v0) (A v0 / 2^i) ((words - 1) / 2^i+1)) (aw:1<=words) :
  ci first hs (DX first words ie i hs all) (4*(words - ((words - 1) / 2^i+1))) (fun v0=>o2 (h9 v0) (A v0) words):=by
 induction i generalizing all hs with
 | zero =>
  refine(ci.known h ad _).to (fun v0 aI=>?_);rw[L v0 aI,Nat.pow_zero,Nat.div_one,Nat.div_one]
  congr 1
  omega
 | succ i aA =>
  have ry:bN first hs (ie.getD i 0):=by
   rw[iH];cases e:ie[i]? with
   | none=>exact qZ ah
   | some x=>exact mZ x (bn e)
  have H5:∀v0,iq first v0->gG v0 hs (ie.getD i 0)=decide (A v0 / 2^i%2=1):=fun v0 aI=>by
   rw[iH];obtain⟨ang,anh⟩:=gV v0 aI;rcases Nat.lt_or_ge i C with ar | ar
   ·have af:=Yk C (A v0) i ar;rw[<-ang] at af;unfold cp at af;rw[fT] at af;cases e:ie[i]? with
    | none=>rw[e] at af;cases af
    | some x=>rw[e] at af;simpa using af
   ·rw[oN (by omega)]
    have:A v0 / 2^i=0:=Nat.div_eq_of_lt (bk anh (q7 (by decide) ar))
    rw[this];exact ya aI
  have F:=Kx ah (ie.getD i 0) all hs h ad ry;unfold DX;dsimp only;obtain⟨az,iT⟩:=uq ah;have Az:(lE first (ie.getD i 0) hs all).2.length=2*all.length:=by rw[F.len iT,anN,oj]
  generalize lE first (ie.getD i 0) hs all=q at *;have ag:1<=(words - 1) / 2^i:=by
   have:=ak1 (show i<rq words by omega)
   rw[Nat.le_div_iff_mul_le (Nat.two_pow_pos i)];omega
  have U:(words - 1) / 2^(i+1)=(words - 1) / 2^i / 2:=by rw[Nat.pow_succ,Nat.div_div_eq_div_mul]
  have fG:(words - 1) / 2^i<=words - 1:=Nat.div_le_self _ _;rw[U] at aU L ⊢;generalize KK:(words - 1) / 2^i=n at *;have O:=aA (by omega) (q.2.take (n+1)) q.1 F.gd.ok (F.gd.allIn mZ) (F.inl.take _) (by rw[jx,Az,aU];omega)
   (fun v0 aI=>by rw[F.gd.vls mZ aI];exact gV v0 aI)
   (fun v0 aI=>by
    rw[LI,F.val v0 aI,L v0 aI,H5 v0 aI,anQ,aqK _ _ _ _ (by omega)]
    congr 1
    have e:A v0 / 2^(i+1)=A v0 / 2^i / 2:=by rw[Nat.pow_succ,Nat.div_div_eq_div_mul]
    rw[e];rcases wX (A v0 / 2^i) with ae | ae <;> simp[ae] <;> omega)
  refine((ci.after F.gd O).mono ?_);rw[aU];omega
theorem RP {first:Nat} (ah:1<=first) (words:Nat) (aw:1<=words) (ie:List Int) (vF:Int) (hs:List Z) (h:bI first hs) (mZ:bt first hs ie) (kf:bN first hs vF) (A:List Bool->Nat)
  (gV:∀v0,iq first v0->cp v0 hs ie=aP ie.length (A v0)∧A v0<2^ie.length) :
  ci first hs (nT first hs words ie vF) (4*(words - 1)+ie.length) (fun v0=>o2 (gG v0 hs vF) (A v0) words):=by
 have ao:(words - 1) / 2^rq words=0:=Nat.div_eq_of_lt (by have:=abQ words;omega);have F:iQ first hs (IL first hs (rq words) ie vF) ie.length (fun v0=>gG v0 hs vF&&decide (A v0 / 2^rq words=0)):=by
  unfold IL;split
  ·next ar =>
   have F:=CA ah h (mZ.drop (rq words));dsimp only;generalize mQ first hs (ie.drop (rq words))=s at *;have O:=j2 ah F.gd.ok (F.gd.inL kf) F.inl.flip;refine((iQ.after F.gd O).mono (by rw[q5];omega)).to (fun v0 aI=>?_);rw[F.gd.vl kf aI,rU F.inl,F.val v0 aI,SH,(gV v0 aI).1,OQ,Uk _ _ (by
    rw[Nat.div_lt_iff_lt_mul (Nat.two_pow_pos _),<-Nat.pow_add,Nat.sub_add_cancel (by omega)];exact(gV v0 aI).2)]
   generalize A v0 / 2^rq words=d;by_cases e:d=0 <;> simp[e]
  ·next ar =>
   refine(iQ.known h kf _).to (fun v0 aI=>?_);rw[Nat.div_eq_of_lt (bk (gV v0 aI).2 (q7 (by decide) (by omega)))];simp
 unfold nT;generalize IL first hs (rq words) ie vF=p at *;have O:=aqL ah words ie (rq words) (aL _) [p.2] p.1 F.gd.ok (F.gd.allIn mZ) (bt.cons F.inl bt.nil) (by rw[ao];rfl) (fun v0=>A v0) (fun v0=>gG v0 hs vF&&decide (A v0 / 2^rq words=0)) ie.length rfl
  (fun v0 aI=>by rw[F.gd.vls mZ aI];exact gV v0 aI)
  (fun v0 aI=>by
   rw[ao]
   show[gG v0 p.1 p.2]=[_]
   rw[F.val v0 aI];cases gG v0 hs vF <;> simp) aw
 refine((ci.after F.gd O).mono (by rw[ao];omega)).to (fun v0 aI=>?_);unfold o2;apply o8;intro k X;have ma:=om.1 X;have D:=abQ words;cases gG v0 hs vF
 ·rfl
 ·by_cases e:A v0=k
  ·simp[e];omega
  ·simp[e]
theorem atG (a:Nat) (l:List Bool) (s:Nat):(List.zipWith (fun x y=>x&&y) ((List.range' s l.length).map (fun k=>decide (a=k))) l).any id=if s<=a then (l[a - s]?).getD false else false:=by
 induction l generalizing s with
 | nil=>simp
 | cons b r aA =>
  rw[yb,List.range'_succ];simp only[List.map_cons,List.zipWith_cons_cons,List.any_cons,aA,id];by_cases h:a=s
  ·subst h;simp;omega
  ·rcases Nat.lt_or_ge a s with F | F
   ·rw[if_neg (by omega),if_neg (by omega)];simp[h]
   ·obtain⟨d,U⟩:∃d,a - s=d+1:=⟨a - s - 1,by omega⟩
    rw[if_pos (by omega),if_pos F,U,List.getElem?_cons_succ,show a - (s+1)=d by omega];simp[h]
theorem atH (a:Nat) (l:List Bool):(List.zipWith (fun x y=>x&&y) (o2 true a l.length) l).any id=(l[a]?).getD false:=by
 have:=atG a l 0
 rw[if_pos (cE _),Nat.sub_zero,<-List.range_eq_range'] at this;unfold o2;simpa using this
def Lb (first:Nat) (lines:List Int) (ws:List (List Int)):Nat->Nat->List Z->List Z×List Int
 | 0,_,hs=>(hs,[])
 | n+1,i,hs =>
  let c:=jb (bE first) hs lines (ws.map fun w=>w.getD i 0)
  let s:=mQ first c.1 c.2
  let z:=Lb first lines ws n (i+1) s.1
  (z.1,s.2::z.2)
def IW (first:Nat) (hs:List Z) (ws:List (List Int)) (I:Nat) (ie:List Int):List Z×List Int :=
 Lb first (nT first hs ws.length ie 1).2 ws I 0 (nT first hs ws.length ie 1).1
theorem KT {first:Nat} {hs:List Z} (ah:1<=first) {w:List Int} (aw:bt first hs w) (i:Nat):bN first hs (w.getD i 0):=by
 rw[iH];cases e:w[i]? with
 | none=>exact qZ ah
 | some x=>exact aw x (bn e)
theorem avS {first:Nat} {hs:List Z} {v0:List Bool} (L:iq first v0) (w:List Int) (i:Nat):gG v0 hs (w.getD i 0)=((cp v0 hs w)[i]?).getD false:=by
 unfold cp;rw[iH,fT];cases e:w[i]? with
 | none=>exact ya L
 | some x=>rfl
theorem atW {first:Nat} (ah:1<=first) (lines:List Int) (ws:List (List Int)) (sQ:lines.length=ws.length) (A:List Bool->Nat) (I:Nat) (a9:List Bool->List Nat) (n i:Nat) (ag:i+n=I) (hs:List Z) (h:bI first hs) (hl:bt first hs lines) (aw:∀w,w∈ws->bt first hs w)
  (adA:∀v0,iq first v0->cp v0 hs lines=o2 true (A v0) ws.length) (kV:∀v0,iq first v0->ws.map (cp v0 hs)=(a9 v0).map (aP I)) :
  ci first hs (Lb first lines ws n i hs) (n*(2*ws.length)) (fun v0=>aP n (((a9 v0)[A v0]?).getD 0 / 2^i)):=by
 induction n generalizing i hs with
 | zero=>exact(ci.known h bt.nil _).to (fun v0 _=>rfl)
 | succ n aA =>
  unfold Lb;dsimp only;have B5:bt first hs (ws.map fun w=>w.getD i 0):=fun l ae=>by
   obtain⟨w,yJ,rfl⟩:=i6.1 ae;exact KT ah (aw w yJ) i
  have F:=Fp (Fh ah) lines (ws.map fun w=>w.getD i 0) hs h hl B5;generalize jb (bE first) hs lines (ws.map fun w=>w.getD i 0)=c at *;have O:=CA ah F.gd.ok F.inl;have bK:=F.gd.trans O.gd;have jt:c.2.length=ws.length:=by
   obtain⟨az,iT⟩:=uq ah;rw[F.len iT];simp[oj,sQ]
  generalize mQ first c.1 c.2=s at *;have ry:iQ first hs s (1*lines.length+(c.2.length - 1)) (fun v0=>decide (((a9 v0)[A v0]?).getD 0 / 2^i%2=1)):=by
   refine⟨bK,O.inl,fun v0 L=>?_⟩;rw[O.val v0 L,F.val v0 L,adA v0 L];have rF:(a9 v0).length=ws.length:=by
    have:=congrArg List.length (kV v0 L)
    simpa using this.symm
   have e:cp v0 hs (ws.map fun w=>w.getD i 0)=(a9 v0).map (fun m=>decide (m / 2^i%2=1)):=by
    have bp:cp v0 hs (ws.map fun w=>w.getD i 0)=(ws.map (cp v0 hs)).map (fun b=>(b[i]?).getD false):=by
     rw[List.map_map]
     show(ws.map fun w=>w.getD i 0).map (gG v0 hs)=_
     rw[List.map_map];exact o8 (fun w _=>avS L w i)
    rw[bp,kV v0 L,List.map_map];exact o8 (fun m _=>by show((aP I m)[i]?).getD false=_;rw[Yk I m i (by omega)];rfl)
   have:=atH (A v0) ((a9 v0).map (fun m=>decide (m / 2^i%2=1)))
   rw[lb,rF] at this;rw[e,this,fT];cases (a9 v0)[A v0]? with
   | none=>simp
   | some x=>rfl
  have aW:=aA (i+1) (by omega) s.1 O.gd.ok (bK.allIn hl) (fun w ae=>bK.allIn (aw w ae)) (fun v0 L=>by rw[bK.vls hl L];exact adA v0 L)
   (fun v0 L=>by rw[<-kV v0 L];exact o8 (fun w ae=>bK.vls (aw w ae) L))
  refine((ci.one ry aW).mono ?_).to (fun v0 L=>?_)
  ·rw[sQ,jt,show(n+1)*(2*ws.length)=n*(2*ws.length)+2*ws.length from Nat.succ_mul _ _];generalize n*(2*ws.length)=z;omega
  ·show _=decide (((a9 v0)[A v0]?).getD 0 / 2^i%2=1)::aP n (((a9 v0)[A v0]?).getD 0 / 2^i / 2);rw[Nat.div_div_eq_div_mul,<-Nat.pow_succ]
theorem atY {first:Nat} (ah:1<=first) (ws:List (List Int)) (hg:1<=ws.length) (I:Nat) (ie:List Int) (hs:List Z) (h:bI first hs) (mZ:bt first hs ie) (aw:∀w,w∈ws->bt first hs w) (A:List Bool->Nat) (a9:List Bool->List Nat)
  (gV:∀v0,iq first v0->cp v0 hs ie=aP ie.length (A v0)∧A v0<2^ie.length) (kV:∀v0,iq first v0->ws.map (cp v0 hs)=(a9 v0).map (aP I)) :
  ci first hs (IW first hs ws I ie) (4*(ws.length - 1)+ie.length+I*(2*ws.length)) (fun v0=>aP I (((a9 v0)[A v0]?).getD 0)):=by
 have F:=RP ah ws.length hg ie 1 hs h mZ (zu ah) A gV;unfold IW;have ks:(nT first hs ws.length ie 1).2.length=ws.length:=by
  obtain⟨az,iT⟩:=uq ah;rw[F.len iT];simp[o2]
 generalize nT first hs ws.length ie 1=ba at *;have O:=atW ah ba.2 ws ks A I a9 I 0 (by omega) ba.1 F.gd.ok F.inl (fun w ae=>F.gd.allIn (aw w ae)) (fun v0 L=>by rw[F.val v0 L,EI ah L])
  (fun v0 L=>by rw[<-kV v0 L];exact o8 (fun w ae=>F.gd.vls (aw w ae) L))
 refine(ci.after F.gd O).to (fun v0 L=>?_);rw[Nat.pow_zero,Nat.div_one]
structure abu (first:Nat) (hs:List Z) (p:List Z×List (List Int)) (n:Nat) (f:List Bool->List (List Bool)):Prop where
 gd:fU first hs p.1 n
 inl:∀w,w∈p.2->bt first p.1 w
 val:∀v0,iq first v0->p.2.map (cp v0 p.1)=f v0
def qE (first:Nat) (data:List Int):List Z->List Int->List (List Int)->List Z×List (List Int)
 | hs,l::ls,w::ws =>
  let q:=n8 first hs l data w
  let z:=qE first data q.1 ls ws
  (z.1,q.2::z.2)
 | hs,_,_=>(hs,[])
theorem YG {first:Nat} (ah:1<=first) (data:List Int) (lines:List Int) (ws:List (List Int)) (hs:List Z) (h:bI first hs) (U:bt first hs data) (hl:bt first hs lines) (aw:∀w,w∈ws->bt first hs w) (aU:∀w,w∈ws->w.length=data.length) :
  abu first hs (qE first data hs lines ws) (3*data.length*ws.length) (fun v0=>List.zipWith (fun(b:Bool) w=>if b then cp v0 hs data else w) (cp v0 hs lines) (ws.map (cp v0 hs))):=by
 induction ws generalizing lines hs with
 | nil=>cases lines <;> exact⟨fU.refl h _,(fun w ae=>nomatch ae),(fun v0 _=>by simp[qE])⟩
 | cons w ws aA =>
  cases lines with
  | nil=>exact⟨fU.refl h _,(fun w ae=>nomatch ae),(fun v0 _=>by simp[qE,cp])⟩
  | cons l ls =>
   have F:=MV ah l data w hs h hl.tail.1 U (aw w (qe ..)) (aU w (qe ..)).symm;unfold qE;dsimp only;generalize n8 first hs l data w=q at *;have O:=aA ls q.1 F.gd.ok (F.gd.allIn U) (F.gd.allIn hl.tail.2) (fun x ae=>F.gd.allIn (aw x (qd _ ae))) (fun x ae=>aU x (qd _ ae));refine⟨(F.gd.trans O.gd).mono (by rw[yb,Nat.mul_succ];omega),fun x ae=>?_,fun v0 L=>?_⟩
   ·rcases List.mem_cons.1 ae with rfl | ae
    ·exact O.gd.allIn F.inl
    ·exact O.inl x ae
   ·show cp v0 _ q.2::_=_;rw[O.gd.vls F.inl L,F.val v0 L,O.val v0 L,F.gd.vls U L,F.gd.vls hl.tail.2 L];rw[show ws.map (cp v0 q.1)=ws.map (cp v0 hs) from o8 (fun x ae=>F.gd.vls (aw x (qd _ ae)) L)]
    rfl
theorem Un (x:Nat) (b:Bool) (h:x.testBit 0=b):x%2=b.toNat:=by
 rw[Nat.testBit_zero] at h;rcases wX x with e | e <;> rw[e] at h ⊢ <;> simp at h <;> rw[h] <;> rfl
theorem aqr (x y:Nat):(x&&& y)%2=(decide (x%2=1)&&decide (y%2=1)).toNat∧(x&&& y) / 2=x / 2&&& y / 2 :=
 ⟨Un _ _ (by rw[Nat.testBit_and,Nat.testBit_zero,Nat.testBit_zero]),by apply Nat.eq_of_testBit_eq;intro i;rw[Nat.testBit_div_two,Nat.testBit_and,Nat.testBit_and,Nat.testBit_div_two,Nat.testBit_div_two]⟩
theorem aqR (x y:Nat):(x||| y)%2=(decide (x%2=1)||decide (y%2=1)).toNat∧(x||| y) / 2=x / 2||| y / 2 :=
 ⟨Un _ _ (by rw[Nat.testBit_or,Nat.testBit_zero,Nat.testBit_zero]),by apply Nat.eq_of_testBit_eq;intro i;rw[Nat.testBit_div_two,Nat.testBit_or,Nat.testBit_or,Nat.testBit_div_two,Nat.testBit_div_two]⟩
theorem aqS (x y:Nat):(x ^^^ y)%2=(decide (x%2=1) ^^ decide (y%2=1)).toNat∧(x ^^^ y) / 2=x / 2 ^^^ y / 2 :=
 ⟨Un _ _ (by rw[Nat.testBit_xor,Nat.testBit_zero,Nat.testBit_zero]),by apply Nat.eq_of_testBit_eq;intro i;rw[Nat.testBit_div_two,Nat.testBit_xor,Nat.testBit_xor,Nat.testBit_div_two,Nat.testBit_div_two]⟩
structure eD (first:Nat) (hs:List Z) (l:List Int) (w:Nat) (cu:List Bool->Nat):Prop where
 inl:bt first hs l
 len:l.length=w
 val:∀v0,iq first v0->cp v0 hs l=aP w (cu v0)
 lt:∀v0,iq first v0->cu v0<2^w
theorem eD.to {first:Nat} {a b:List Z} {n:Nat} (g:fU first a b n) {l:List Int} {w:Nat} {cu:List Bool->Nat} (h:eD first a l w cu):eD first b l w cu :=
 ⟨g.allIn h.inl,h.len,fun v0 L=>by rw[g.vls h.inl L];exact h.val v0 L,h.lt⟩
theorem eD.of {first:Nat} (ah:1<=first) {hs:List Z} {p:List Z×List Int} {n w:Nat} {cu:List Bool->Nat} (h:ci first hs p n (fun v0=>aP w (cu v0))) (anJ:∀v0,iq first v0->cu v0<2^w):eD first p.1 p.2 w cu :=
 ⟨h.inl,by obtain⟨v0,L⟩:=uq ah;rw[h.len L,rT],h.val,anJ⟩
theorem ahU {first:Nat} {hs:List Z} {r:List Int} (ak:bt first hs r) {v0:List Bool}:cp v0 hs (r.map bu)=(cp v0 hs r).map (!·):=by
 unfold cp;rw[List.map_map,List.map_map];exact o8 (fun x ae=>rU (ak x ae))
theorem as6 (b:Bool):aP 1 b.toNat=[b]:=by cases b <;> rfl
section
variable {first:Nat} (ah:1<=first) {hs:List Z} (h:bI first hs) {l r:List Int} {w:Nat} {cu iD:List Bool->Nat}
theorem avY (ah:1<=first) (h:bI first hs) (hl:eD first hs l w cu) (ak:eD first hs r w iD):ci first hs (jb (bE first) hs l r) w (fun v0=>aP w (cu v0&&& iD v0)) :=
 ((Fp (Fh ah) l r hs h hl.inl ak.inl).mono (by rw[hl.len];omega)).to (fun v0 L=>by rw[hl.val v0 L,ak.val v0 L];exact YN _ _ aqr w _ _)
theorem av8 (ah:1<=first) (h:bI first hs) (hl:eD first hs l w cu) (ak:eD first hs r w iD):ci first hs (jb (lJ first) hs l r) w (fun v0=>aP w (cu v0||| iD v0)) :=
 ((Fp (Ou ah) l r hs h hl.inl ak.inl).mono (by rw[hl.len];omega)).to (fun v0 L=>by rw[hl.val v0 L,ak.val v0 L];exact YN _ _ aqR w _ _)
theorem awb (ah:1<=first) (h:bI first hs) (hl:eD first hs l w cu) (ak:eD first hs r w iD):ci first hs (jb (ic first) hs l r) (3*w) (fun v0=>aP w (cu v0 ^^^ iD v0)) :=
 ((Fp (GH ah) l r hs h hl.inl ak.inl).mono (by rw[hl.len];omega)).to (fun v0 L=>by rw[hl.val v0 L,ak.val v0 L];exact YN _ _ aqS w _ _)
theorem avW (ah:1<=first) (h:bI first hs) (hl:eD first hs l w cu) (ak:eD first hs r w iD):ci first hs (pC first hs l r 0) (9*w) (fun v0=>aP w (cu v0+iD v0)) :=
 ((Sn ah l r 0 hs h hl.inl ak.inl (qZ ah)).mono (by rw[hl.len];omega)).to (fun v0 L=>by rw[hl.val v0 L,ak.val v0 L,ya L];exact Uf w _ _ false)
theorem awa (ah:1<=first) (h:bI first hs) (hl:eD first hs l w cu) (ak:eD first hs r w iD) (aw:w<=64):ci first hs (pC first hs l (r.map bu) 1) (9*w) (fun v0=>aP w (cu v0+(18446744073709551616 - iD v0))) :=
 ((Sn ah l (r.map bu) 1 hs h hl.inl (fun x ae=>by obtain⟨y,aF,rfl⟩:=i6.1 ae;exact(ak.inl y aF).flip) (zu ah)).mono (by rw[hl.len];omega)).to (fun v0 L=>by
  rw[ahU ak.inl,hl.val v0 L,ak.val v0 L,EI ah L];exact auU w _ _ (ak.lt v0 L) aw)
theorem av4 (ah:1<=first) (h:bI first hs) (hl:eD first hs l w cu) (ak:eD first hs r w iD):ci first hs (q3 first l hs (List.replicate l.length 0) 0 r) (10*w*w) (fun v0=>aP w (cu v0*iD v0)) :=
 ((XF ah l r 0 (List.replicate l.length 0) hs h hl.inl ak.inl (bt.no ah _) (by simp)).mono (by rw[hl.len,ak.len];omega)).to (fun v0 L=>by
  rw[SI L,hl.val v0 L,ak.val v0 L,hl.len];exact ari w _ _ (ak.lt v0 L))
theorem ahX (ah:1<=first) (h:bI first hs) (up:Bool) {C:Nat} (hl:eD first hs l w cu) (ak:eD first hs r C iD) (aw:w<=32):ci first hs (tC first up w hs 0 r l) (16*w+C) (fun v0=>aP w (uQ up (cu v0) (iD v0))) :=
 ((agh ah up w aw r 0 (by omega) l hs h ak.inl hl.inl hl.len).mono (by rw[ak.len];omega)).to (fun v0 L=>by
  rw[hl.val v0 L,ak.val v0 L];exact auD up w _ C _ (hl.lt v0 L) (ak.lt v0 L))
theorem av5 (h:bI first hs) (hl:eD first hs l w cu):ci first hs (hs,l.map bu) 0 (fun v0=>aP w (2^w - 1 - cu v0)) :=
 (ci.known h (fun x ae=>by obtain⟨y,aF,rfl⟩:=i6.1 ae;exact(hl.inl y aF).flip) 0).to (fun v0 L=>by
  rw[ahU hl.inl,hl.val v0 L,agx,Nat.mod_eq_of_lt (hl.lt v0 L)])
theorem OY {p:List Z×Int} {n:Nat} {f:List Bool->Bool} (aE:iQ first hs p n f):ci first hs (p.1,[p.2]) n (fun v0=>aP 1 (f v0).toNat) :=
 ⟨aE.gd,bt.cons aE.inl bt.nil,fun v0 L=>by rw[as6];show[gG v0 p.1 p.2]=_;rw[aE.val v0 L]⟩
theorem avZ (ah:1<=first) (h:bI first hs) (hl:eD first hs l w cu):iQ first hs (mQ first hs l) (w - 1) (fun v0=>decide (cu v0≠0)) :=
 ((CA ah h hl.inl).mono (by rw[hl.len];omega)).to (fun v0 L=>by rw[hl.val v0 L];exact Uk w _ (hl.lt v0 L))
theorem avX (ah:1<=first) (h:bI first hs) (hl:eD first hs l w cu):iQ first hs (Ab first hs l) (w - 1) (fun v0=>decide (cu v0=2^w - 1)) :=
 ((aku ah h hl.inl).mono (by rw[hl.len];omega)).to (fun v0 L=>by rw[hl.val v0 L];exact akr w _ (hl.lt v0 L))
theorem av3 (ah:1<=first) (h:bI first hs) (hl:eD first hs l w cu) (ak:eD first hs r w iD):iQ first hs (zz first hs l r 0) (4*w) (fun v0=>decide (cu v0<iD v0)) :=
 ((aqI ah l r 0 hs h hl.inl ak.inl (qZ ah)).mono (by rw[hl.len];omega)).to (fun v0 L=>by
  rw[hl.val v0 L,ak.val v0 L,ya L,aqH,Nat.mod_eq_of_lt (hl.lt v0 L),Nat.mod_eq_of_lt (ak.lt v0 L)];simp)
def Qm (first:Nat) (hs:List Z) (l r:List Int):List Z×Int :=
 let x:=jb (ic first) hs l r
 let s:=mQ first x.1 x.2
 (s.1,bu s.2)
theorem av0 (ah:1<=first) (h:bI first hs) (hl:eD first hs l w cu) (ak:eD first hs r w iD):iQ first hs (Qm first hs l r) (4*w) (fun v0=>decide (cu v0=iD v0)):=by
 have F:=Fp (GH ah) l r hs h hl.inl ak.inl;unfold Qm;dsimp only;have zr:(jb (ic first) hs l r).2.length=w:=by
  obtain⟨v0,L⟩:=uq ah;rw[F.len L];simp[oj,hl.len,ak.len]
 generalize jb (ic first) hs l r=x at *;have O:=CA ah F.gd.ok F.inl;refine(((iQ.after F.gd O).flip).mono (by rw[hl.len,zr];omega)).to (fun v0 L=>?_);rw[F.val v0 L,hl.val v0 L,ak.val v0 L];exact amq w _ _ (hl.lt v0 L) (ak.lt v0 L)
theorem av2 (ah:1<=first) (h:bI first hs) {asked:Int} {q:List Bool->Bool} (aJ:bN first hs asked) (ao7:∀v0,iq first v0->gG v0 hs asked=q v0) (hl:eD first hs l w cu) (ak:eD first hs r w iD):ci first hs (n8 first hs asked l r) (3*w) (fun v0=>aP w (if q v0 then cu v0 else iD v0)) :=
 ((MV ah asked l r hs h aJ hl.inl ak.inl (by rw[hl.len,ak.len])).mono (by rw[hl.len];omega)).to (fun v0 L=>by
  rw[hl.val v0 L,ak.val v0 L,ao7 v0 L];cases q v0 <;> rfl)
theorem av9 (h:bI first hs) (hl:eD first hs l w cu) (num width:Nat) (ag:num+width<=w):ci first hs (hs,(l.drop num).take width) 0 (fun v0=>aP width (cu v0 / 2^num)) :=
 (ci.known h ((hl.inl.drop num).take width) 0).to (fun v0 L=>by
  rw[LI,SH,hl.val v0 L,OQ,Lz,Nat.min_eq_left (by omega)])
theorem av1 (ah:1<=first) (h:bI first hs) (hl:eD first hs l w cu) (width:Nat):ci first hs (hs,l.take width++List.replicate (width - l.length) 0) 0 (fun v0=>aP width (cu v0)) :=
 (ci.known h ((hl.inl.take width).app (bt.no ah _)) 0).to (fun v0 L=>by
  rw[OW,LI,SI L,hl.val v0 L,hl.len];exact(agw width w _ (hl.lt v0 L)).symm)
def yM:Nat->Nat->List Int
 | 0,_=>[]
 | w+1,n=>((n%2:Nat):Int)::yM w (n / 2)
theorem av6 (ah:1<=first) (h:bI first hs) (w n:Nat):ci first hs (hs,yM w n) 0 (fun _=>aP w n):=by
 have bO:∀w n,bt first hs (yM w n):=by
  intro w
  induction w with
  | zero=>intro n;exact bt.nil
  | succ w aA =>
   intro n;refine bt.cons ?_ (aA _);rcases wX n with e | e <;> rw[e]
   ·exact qZ ah
   ·exact zu ah
 refine(ci.known h (bO w n) 0).to (fun v0 L=>?_)
 induction w generalizing n with
 | zero=>rfl
 | succ w aA =>
  show gG v0 hs ((n%2:Nat):Int)::cp v0 hs (yM w (n / 2))=_;rw[aA (n / 2)];show _=decide (n%2=1)::aP w (n / 2);rcases wX n with e | e <;> rw[e]
  ·rw[show((0:Nat):Int)=0 from rfl,ya L];rfl
  ·rw[show((1:Nat):Int)=1 from rfl,EI ah L];rfl
theorem av7 (ah:1<=first) (h:bI first hs) (hl:eD first hs l w cu):iQ first hs (AN first hs l) (3*w) (fun v0=>(aP w (cu v0)).foldr (fun x y=>x ^^ y) false) :=
 ((as2 ah h hl.inl).mono (by rw[hl.len];omega)).to (fun v0 L=>by rw[hl.val v0 L])
end
def lX (ls:List (List Int)):List Int:=ls.reverse.flatten
theorem alr {hs:List Z} {v0:List Bool} (ls:List (List Int)) (ps:List (Nat×Nat)) (L:ls.map (cp v0 hs)=ps.map (fun p=>aP p.2 p.1)) (aE:∀p,p∈ps->p.1<2^p.2) (J8:List Int) (s v:Nat) (ad:cp v0 hs J8=aP s v) :
  cp v0 hs (lX ls++J8)=aP (s+(ps.map (·.2)).sum) (ps.foldl (fun v p=>v*2^p.2+p.1) v):=by
 induction ls generalizing ps J8 s v with
 | nil =>
  have:ps=[]:=by
   cases ps with
   | nil=>rfl
   | cons a r=>simp at L
  subst this;simpa[lX] using ad
 | cons l ls aA =>
  cases ps with
  | nil=>simp at L
  | cons p ps =>
   simp only[List.map_cons,List.cons.injEq] at L;have F:=aA ps L.2 (fun q aJ=>aE q (qd _ aJ)) (l++J8) (p.2+s) (v*2^p.2+p.1) (by
    rw[OW,L.1,ad,<-OP p.2 s p.1 v (aE p (qe ..))])
   rw[show lX (l::ls)++J8=lX ls++(l++J8) by simp[lX]];rw[F];simp only[List.map_cons,List.sum_cons,List.foldl_cons];rw[show p.2+s+(ps.map (·.2)).sum=s+(p.2+(ps.map (·.2)).sum) by omega]
structure bZ (C:Nat) (w:World) (E M first:Nat) (hs:List Z) (Ps:Nat->Prop):Prop where
 gt:∃u,qg C w E M first hs u∧∀b,Ps b->u.ownBlock≠some b
 ok:bI first hs
 lo:C<=E∧C<=M∧C<=w.heap.size
 len:hs.length<=1048576∧1<=first∧first<=100000000
 ps:∀b,Ps b->b<w.heap.size∧b≠E∧b≠M
structure f3 (C:Nat) (Ps:Nat->Prop) (w B:World):Prop where
 below:Below C w B
 block:∀b,Ps b->B.heap[b]?=w.heap[b]?
theorem f3.refl (C:Nat) (Ps:Nat->Prop) (w:World):f3 C Ps w w:=⟨ax _ _,fun _ _=>rfl⟩
theorem f3.trans {C:Nat} {Ps:Nat->Prop} {a b c:World} (h:f3 C Ps a b) (O:f3 C Ps b c):f3 C Ps a c:=⟨h.below.trans O.below,fun x J=>(O.block x J).trans (h.block x J)⟩
def pi {α:Type} (C:Nat) (w:World) (E M first:Nat) (Ps:Nat->Prop) (res:List Z×α) (v:α->Value) (e:Ending) (B:World):Prop :=
 (res.1.length<=1048576∧e = .returned (v res.2)∧bZ C B E M first res.1 Ps∧f3 C Ps w B)∨(1048576<res.1.length∧(∃p,e=fI p∧qG B p 11 0)∧Below C w B)
def hz (x:Int):Value:= .int .i64 x
theorem bZ.to {C:Nat} {w B:World} {E M first:Nat} {hs:List Z} {Ps:Nat->Prop} (h:bZ C w E M first hs Ps) (D:V w B):bZ C B E M first hs Ps:=by
 obtain⟨u,bb,uF⟩:=h.gt;exact⟨⟨u,bb.to D,uF⟩,h.ok,⟨h.lo.1,h.lo.2.1,bL h.lo.2.2 D.size⟩,h.len,fun b aE=>⟨bk (h.ps b aE).1 D.size,(h.ps b aE).2⟩⟩
theorem sF (C:Nat) (w:World) (E M first:Nat) (hs:List Z) (Ps:Nat->Prop) (h:bZ C w E M first hs Ps) (a b:Int) (ad:bN first hs a) (D:bN first hs b) :
  Calls Tryz.prog 90 #[.pointer (some ⟨E,0,none⟩),.int .i64 a,.int .i64 b] w (pi C w E M first Ps (bE first hs a b) hz):=by
 obtain⟨u,bb,uF⟩:=h.gt;have hl:=h.len;by_cases h2:(bE first hs a b).1.length<=1048576
 ·refine(akw C w E M first hs u w.heap.size (aL _) bb h.ok (by omega) a b ad D h2).mono ?_;rintro e B ⟨rfl,⟨g7,WB,cR⟩,w1,w2,bY,bK,h7⟩;have zl:=bY.size;have nt:=bK.size;have em:=h7.size;have X:∀k,k<w.heap.size->u.ownBlock≠some k->k≠E->k≠M->B.heap[k]?=w.heap[k]?:=fun k X bp aS bM =>
   (h7.block k (by omega) (fun e=>bM (Option.some.inj e))).trans ((bK.block k (by omega) (fun e=>aS (Option.some.inj e))).trans (bY.block k X (fun e=>bp e.symm)))
  refine .inl ⟨h2,rfl,⟨⟨g7,WB,fun x J e=>?_⟩,(j2 hl.2.1 h.ok ad D).gd.ok,⟨h.lo.1,h.lo.2.1,by have:=h.lo.2.2;omega⟩,⟨h2,hl.2⟩,fun x J=>⟨by have:=(h.ps x J).1;omega,(h.ps x J).2⟩⟩,⟨?_,fun x J=>X x (h.ps x J).1 (uF x J) (h.ps x J).2.1 (h.ps x J).2.2⟩⟩
  ·rcases cR x e with F | F
   ·exact uF x J F
   ·have:=(h.ps x J).1;omega
  ·refine⟨h7.os.trans (bK.os.trans bY.os),h7.tape.trans (bK.tape.trans bY.tape),h7.output.trans (bK.output.trans bY.output),by omega,fun k ay1=>?_⟩;have F:=h.lo.1;have O:=h.lo.2.1;have aW:=h.lo.2.2;exact X k (by omega) (fun e=>by have:=(bb.ow.lt k e).1;omega) (by omega) (by omega)
 ·have kC:¬(min a b=0∨max a b=bu (min a b)):=fun e=>h2 (by rw[P4 rfl rfl e];exact hl.1)
  have j3:¬(min a b=1∨max a b=min a b):=fun e=>h2 (by rw[Ui rfl rfl kC e];exact hl.1)
  have ah:pm hs (max a b) (min a b)=none:=by
   cases ah:pm hs (max a b) (min a b) with
   | none=>rfl
   | some i=>exact absurd (by rw[abB rfl rfl kC j3 ah];exact hl.1) h2
  have aU:hs.length=1048576:=by
   rw[Uh rfl rfl kC j3 ah] at h2;simp at h2;omega
  have Dm:∀e B,(∃p,e=fI p∧qG B p 11 0∧V w B)->pi C w E M first Ps (bE first hs a b) hz e B:=by
   rintro e B ⟨p,F,O,aW⟩;exact .inr ⟨by omega,⟨p,F,O⟩,aW.mono h.lo.2.2⟩
  by_cases F:b<a
  ·rw[show max a b=a by omega,show min a b=b by omega] at kC j3 ah;exact(amV C w E M first hs u bb h.ok (by omega) a b ad D F kC j3 ah aU).mono Dm
  ·have O:a<b:=by
    have:¬a=b:=fun e=>j3 (.inr (by omega))
    omega
   rw[show max a b=b by omega,show min a b=a by omega] at kC j3 ah;exact(amW C w E M first hs u bb h.ok (by omega) a b ad D O kC j3 ah aU).mono Dm
theorem vK {first:Nat} {hs:List Z} {x:Int} (J:bN first hs x) (hl:hs.length<=1048576) (ah:first<=100000000) (w:World):Calls Tryz.prog 97 #[.int .i64 x] w fun e B=>e = .returned (.int .i64 (bu x))∧B=w :=
 K6 x J.1 (by have:=J.2;omega) w
theorem IM (C:Nat) (w:World) (E M first:Nat) (hs:List Z) (Ps:Nat->Prop) (h:bZ C w E M first hs Ps) (a b:Int) (ad:bN first hs a) (D:bN first hs b) :
  Calls Tryz.prog 95 #[.pointer (some ⟨E,0,none⟩),.int .i64 a,.int .i64 b] w (pi C w E M first Ps (lJ first hs a b) hz):=by
 have hl:=h.len;have T7:=K (vK ad hl.1 hl.2.2);have Hr:=K (vK D hl.1 hl.2.2);have nE:=K (sF C w E M first hs Ps h (bu a) (bu b) ad.flip D.flip);have kv:=K (j2 hl.2.1 h.ok ad.flip D.flip);unfold lJ;generalize bE first hs (bu a) (bu b)=p at *;generalize bu a=rv at *;generalize bu b=Kb at *;clear h ad D;go_enter Tryz.func95,Tryz.ntmps95
 go_wp2_with fail
 go_at_call 97;refine(T7 _).mono ?_;rintro e v ⟨rfl,L⟩;rw[L];clear L;go_wp2_with fail
 go_at_call 97;refine(Hr _).mono ?_;rintro e v ⟨rfl,L⟩;rw[L];clear L;go_wp2_with fail
 go_at_call 90;refine nE.mono ?_;rintro e v (⟨ag,rfl,af,X⟩ | ⟨ag,⟨q,rfl,bq⟩,D⟩)
 ·have T8:=K (vK kv.inl ag hl.2.2);have cl:=K (show _∧_∧_ from ⟨ag,af,X⟩);clear ag af X;unfold hz;go_wp2_with fail
  go_at_call 97;refine(T8 _).mono ?_;rintro e v ⟨rfl,L⟩;rw[L];clear L;go_wp2;go_ret
  exact .inl ⟨cl.1,rfl,cl.2.1,cl.2.2⟩
 ·have cl:=K (show _∧_∧_ from ⟨ag,bq,D⟩);clear ag bq D;unfold fI;go_wp2;exact⟨rfl,.inr ⟨cl.1,⟨q,rfl,cl.2.1⟩,cl.2.2⟩⟩
theorem O5 (C:Nat) (w:World) (E M first:Nat) (hs:List Z) (Ps:Nat->Prop) (h:bZ C w E M first hs Ps) (a b:Int) (ad:bN first hs a) (D:bN first hs b) :
  Calls Tryz.prog 96 #[.pointer (some ⟨E,0,none⟩),.int .i64 a,.int .i64 b] w (pi C w E M first Ps (ic first hs a b) hz):=by
 have hl:=h.len;have T7:=K (vK ad hl.1 hl.2.2);have Hr:=K (vK D hl.1 hl.2.2);have nE:=K (sF C w E M first hs Ps h a b ad D);have kv:=K (j2 hl.2.1 h.ok ad D);unfold ic;dsimp only;generalize bE first hs a b=p at *;have rv:=K (kv.gd.inL ad).flip;have Kb:=K (kv.gd.inL D).flip;have jX:=K (j2 hl.2.1 kv.gd.ok rv Kb);have YP:=K fun v (L:bZ C v E M first p.1 Ps)=>sF C v E M first p.1 Ps L _ _ rv Kb
 clear rv Kb;generalize bE first p.1 (bu a) (bu b)=q at *;generalize bu a=rv at *;generalize bu b=Kb at *;have WZ:=K (jX.gd.inL kv.inl);have LY:=K (j2 hl.2.1 jX.gd.ok WZ.flip jX.inl.flip);have YQ:=K fun v (L:bZ C v E M first q.1 Ps)=>sF C v E M first q.1 Ps L _ _ WZ.flip jX.inl.flip
 generalize DK:bE first q.1 (bu p.2) (bu q.2)=r at *;clear DK;clear h ad D;go_enter Tryz.func96,Tryz.ntmps96
 go_wp2_with fail
 go_at_call 90;refine nE.mono ?_;rintro e hJ (⟨ag,rfl,af,X⟩ | ⟨ag,⟨z,rfl,bq⟩,D⟩)
 ·have cl:=K (show _∧_∧_ from ⟨ag,af,X⟩);clear ag af X nE;unfold hz;go_wp2_with fail
  go_at_call 97;refine(T7 _).mono ?_;rintro e v ⟨rfl,L⟩;rw[L];clear L;go_wp2_with fail
  go_at_call 97;refine(Hr _).mono ?_;rintro e v ⟨rfl,L⟩;rw[L];clear L;go_wp2_with fail
  go_at_call 90;refine(YP _ cl.2.1).mono ?_;rintro e gZ (⟨ag,rfl,af,X⟩ | ⟨ag,⟨z,rfl,bq⟩,D⟩)
  ·have C2:=K (show _∧_∧_ from ⟨ag,af,X⟩);have T8:=K (vK WZ ag hl.2.2);have aj7:=K (vK jX.inl ag hl.2.2);clear ag af X YP;unfold hz;go_wp2_with fail
   go_at_call 97;refine(T8 _).mono ?_;rintro e v ⟨rfl,L⟩;rw[L];clear L;go_wp2_with fail
   go_at_call 97;refine(aj7 _).mono ?_;rintro e v ⟨rfl,L⟩;rw[L];clear L;go_wp2_with fail
   go_at_call 90;refine(YQ _ C2.2.1).mono ?_;rintro e nC (⟨ag,rfl,af,X⟩ | ⟨ag,⟨z,rfl,bq⟩,D⟩)
   ·have Ha:=K (show _∧_∧_ from ⟨ag,af,X⟩);clear ag af X YQ;unfold hz;go_wp2;go_ret
    exact .inl ⟨Ha.1,rfl,Ha.2.1,(cl.2.2.trans C2.2.2).trans Ha.2.2⟩
   ·have bd:=K (show _∧_∧_ from ⟨ag,bq,(cl.2.2.below.trans C2.2.2.below).trans D⟩);clear ag bq D;unfold fI;go_wp2;exact⟨rfl,.inr ⟨bd.1,⟨z,rfl,bd.2.1⟩,bd.2.2⟩⟩
  ·have bd:=K (show _∧_∧_ from ⟨bk ag LY.gd.len.1,bq,cl.2.2.below.trans D⟩);clear ag bq D;unfold fI;go_wp2;exact⟨rfl,.inr ⟨bd.1,⟨z,rfl,bd.2.1⟩,bd.2.2⟩⟩
 ·have bd:=K (show _∧_∧_ from ⟨bk ag (bL jX.gd.len.1 LY.gd.len.1),bq,D⟩);clear ag bq D;unfold fI;go_wp2;exact⟨rfl,.inr ⟨bd.1,⟨z,rfl,bd.2.1⟩,bd.2.2⟩⟩
end Go.Proofs.YtcbcenfjigcfkaaGreatDoor
