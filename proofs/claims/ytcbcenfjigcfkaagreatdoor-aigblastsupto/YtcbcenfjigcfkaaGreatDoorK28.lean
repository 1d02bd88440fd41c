import Derived.Test.YtcbcenfjigcfkaaGreatDoorK27
set_option maxRecDepth 100000
set_option maxHeartbeats 40000000
namespace Go.Proofs.YtcbcenfjigcfkaaGreatDoor
open Go.RowKit
theorem at_nat {ws:List Nat} {k:Nat} {x:Int} (X:k<ws.length) (e:bi (ws.map Int.ofNat) k=x):ws[k]?=some x.toNat:=by
 subst e;simp[bi,List.getElem?_eq_getElem X]
theorem auZ (ws:List Nat):(ws.map Int.ofNat).sum=(ws.sum:Int):=by
 induction ws with
 | nil=>rfl
 | cons p r aA=>simp only[List.map_cons,List.sum_cons,aA];push_cast;rfl
theorem Dn {ws:List Nat} {k:Nat} (X:k<ws.length):∃w,ws[k]?=some w:=⟨_,ct X⟩
def nx (kind:Int) (width:Nat) (ws:List Nat):Nat :=
 if kind=17 then width*width else if kind=18∨kind=19 then 6*width else width+ws.sum
theorem Oj {ws:List Nat} {k w:Nat} (h:ws[k]?=some w):w<=ws.sum:=by
 induction ws generalizing k with
 | nil=>simp at h
 | cons a r aA =>
  rw[List.sum_cons];cases k with
  | zero=>simp at h;omega
  | succ k=>have:=aA (k:=k) (by simpa using h);omega
theorem auI {w:Nat} (h:1<=w):10*w*w<=40*(w*w) - 1:=by
 have:1*1<=w*w:=Nat.mul_le_mul h h
 rw[Nat.mul_assoc];omega
theorem M3 (x w:Nat):g9 [(x,w)] 0=x:=rfl
theorem afB (width num:Nat) (xO:List (Nat×Nat)):hh 5 width num xO=g9 xO 0 / 2^num%2^width:=rfl
theorem afC (width num:Nat) (xO:List (Nat×Nat)):hh 6 width num xO=g9 xO 0%2^width:=rfl
theorem afD (width num:Nat) (xO:List (Nat×Nat)):hh 8 width num xO=(18446744073709551615 ^^^ g9 xO 0)%2^width:=rfl
theorem afz (width num:Nat) (xO:List (Nat×Nat)):hh 10 width num xO=n6 (decide (g9 xO 0≠0)):=rfl
theorem afA (width num:Nat) (xO:List (Nat×Nat)):hh 11 width num xO=xM 64 (g9 xO 0):=rfl
theorem at_get {ws:List Nat} {k w:Nat} (h:ws[k]?=some w):bi (ws.map Int.ofNat) k=(w:Int):=by simp[bi,h]
section
variable {first:Nat} (ah:1<=first) {hs:List Z} (h:bI first hs) {ins regs:List (List Int)} {mems:List (List (List Int))} {bv:List (List Int)} {ws:List Nat} {ps:List Bool->List (Nat×Nat)} {width num:Nat} {args:List Int} {da:Option Addr} {dc:Nat}
 (ad:oo first hs bv ws ps) (bT:1<=width) (aw:width<=32) (hg:∀w,w∈ws->w<=32)
theorem avu (ah:1<=first) (h:bI first hs) (ad:oo first hs bv ws ps) (bT:1<=width) (ag:(ws.length:Int)=ew 12) (ej:hX 12 width num (ws.map Int.ofNat)=true):ci first hs (iM first ins regs mems hs ⟨12,(width:Int),(num:Int),args,da,dc⟩ bv) (40*nx 12 width ws - 1) (fun v0=>aP width (hh 12 width num (ps v0))):=by
 have hl:ws.length=2:=Int.ofNat.inj ag;have iL:bi (ws.map Int.ofNat) 0=width∧bi (ws.map Int.ofNat) 1=width:=jN ej;exact(asI ah h (num:=num) (ad.num (at_nat (by omega) iL.1)) (ad.num (at_nat (by omega) iL.2))).mono (by show _<=40*(width+ws.sum) - 1;omega)
theorem avv (ah:1<=first) (h:bI first hs) (ad:oo first hs bv ws ps) (bT:1<=width) (ag:(ws.length:Int)=ew 13) (ej:hX 13 width num (ws.map Int.ofNat)=true):ci first hs (iM first ins regs mems hs ⟨13,(width:Int),(num:Int),args,da,dc⟩ bv) (40*nx 13 width ws - 1) (fun v0=>aP width (hh 13 width num (ps v0))):=by
 have hl:ws.length=2:=Int.ofNat.inj ag;have iL:bi (ws.map Int.ofNat) 0=width∧bi (ws.map Int.ofNat) 1=width:=jN ej;exact(asT ah h (num:=num) (ad.num (at_nat (by omega) iL.1)) (ad.num (at_nat (by omega) iL.2))).mono (by show _<=40*(width+ws.sum) - 1;omega)
theorem avw (ah:1<=first) (h:bI first hs) (ad:oo first hs bv ws ps) (bT:1<=width) (ag:(ws.length:Int)=ew 14) (ej:hX 14 width num (ws.map Int.ofNat)=true):ci first hs (iM first ins regs mems hs ⟨14,(width:Int),(num:Int),args,da,dc⟩ bv) (40*nx 14 width ws - 1) (fun v0=>aP width (hh 14 width num (ps v0))):=by
 have hl:ws.length=2:=Int.ofNat.inj ag;have iL:bi (ws.map Int.ofNat) 0=width∧bi (ws.map Int.ofNat) 1=width:=jN ej;exact(asY ah h (num:=num) (ad.num (at_nat (by omega) iL.1)) (ad.num (at_nat (by omega) iL.2))).mono (by show _<=40*(width+ws.sum) - 1;omega)
theorem avx (ah:1<=first) (h:bI first hs) (ad:oo first hs bv ws ps) (bT:1<=width) (aw:width<=32) (ag:(ws.length:Int)=ew 15) (ej:hX 15 width num (ws.map Int.ofNat)=true):ci first hs (iM first ins regs mems hs ⟨15,(width:Int),(num:Int),args,da,dc⟩ bv) (40*nx 15 width ws - 1) (fun v0=>aP width (hh 15 width num (ps v0))):=by
 have hl:ws.length=2:=Int.ofNat.inj ag;have iL:bi (ws.map Int.ofNat) 0=width∧bi (ws.map Int.ofNat) 1=width:=jN ej;exact(asG ah h (by omega) (num:=num) (ad.num (at_nat (by omega) iL.1)) (ad.num (at_nat (by omega) iL.2))).mono (by show _<=40*(width+ws.sum) - 1;omega)
theorem avy (ah:1<=first) (h:bI first hs) (ad:oo first hs bv ws ps) (bT:1<=width) (aw:width<=32) (ag:(ws.length:Int)=ew 16) (ej:hX 16 width num (ws.map Int.ofNat)=true):ci first hs (iM first ins regs mems hs ⟨16,(width:Int),(num:Int),args,da,dc⟩ bv) (40*nx 16 width ws - 1) (fun v0=>aP width (hh 16 width num (ps v0))):=by
 have hl:ws.length=2:=Int.ofNat.inj ag;have iL:bi (ws.map Int.ofNat) 0=width∧bi (ws.map Int.ofNat) 1=width:=jN ej;exact(asX ah h (by omega) (num:=num) (ad.num (at_nat (by omega) iL.1)) (ad.num (at_nat (by omega) iL.2))).mono (by show _<=40*(width+ws.sum) - 1;omega)
theorem avz (ah:1<=first) (h:bI first hs) (ad:oo first hs bv ws ps) (bT:1<=width) (aw:width<=32) (ag:(ws.length:Int)=ew 17) (ej:hX 17 width num (ws.map Int.ofNat)=true):ci first hs (iM first ins regs mems hs ⟨17,(width:Int),(num:Int),args,da,dc⟩ bv) (40*nx 17 width ws - 1) (fun v0=>aP width (hh 17 width num (ps v0))):=by
 have hl:ws.length=2:=Int.ofNat.inj ag;have iL:bi (ws.map Int.ofNat) 0=width∧bi (ws.map Int.ofNat) 1=width:=jN ej;exact(asP ah h (by omega) (num:=num) (ad.num (at_nat (by omega) iL.1)) (ad.num (at_nat (by omega) iL.2))).mono (auI bT)
theorem avA (ah:1<=first) (h:bI first hs) (ad:oo first hs bv ws ps) (bT:1<=width) (aw:width<=32) (hg:∀w,w∈ws->w<=32) (ag:(ws.length:Int)=ew 18) (ej:hX 18 width num (ws.map Int.ofNat)=true):ci first hs (iM first ins regs mems hs ⟨18,(width:Int),(num:Int),args,da,dc⟩ bv) (40*nx 18 width ws - 1) (fun v0=>aP width (hh 18 width num (ps v0))):=by
 have hl:ws.length=2:=Int.ofNat.inj ag;have iL:bi (ws.map Int.ofNat) 0=width:=jN ej;obtain⟨w1,F⟩:=Dn (ws:=ws) (k:=1) (by omega);exact(asU ah h (num:=num) (by omega) (ad.num (at_nat (by omega) iL)) (ad.num F)).mono (by have:=hg w1 (bn F);show _<=40*(6*width) - 1;omega)
theorem avB (ah:1<=first) (h:bI first hs) (ad:oo first hs bv ws ps) (bT:1<=width) (aw:width<=32) (hg:∀w,w∈ws->w<=32) (ag:(ws.length:Int)=ew 19) (ej:hX 19 width num (ws.map Int.ofNat)=true):ci first hs (iM first ins regs mems hs ⟨19,(width:Int),(num:Int),args,da,dc⟩ bv) (40*nx 19 width ws - 1) (fun v0=>aP width (hh 19 width num (ps v0))):=by
 have hl:ws.length=2:=Int.ofNat.inj ag;have iL:bi (ws.map Int.ofNat) 0=width:=jN ej;obtain⟨w1,F⟩:=Dn (ws:=ws) (k:=1) (by omega);exact(asV ah h (num:=num) (by omega) (ad.num (at_nat (by omega) iL)) (ad.num F)).mono (by have:=hg w1 (bn F);show _<=40*(6*width) - 1;omega)
theorem avC (ah:1<=first) (h:bI first hs) (ad:oo first hs bv ws ps) (ag:(ws.length:Int)=ew 20) (ej:hX 20 width num (ws.map Int.ofNat)=true):ci first hs (iM first ins regs mems hs ⟨20,(width:Int),(num:Int),args,da,dc⟩ bv) (40*nx 20 width ws - 1) (fun v0=>aP width (hh 20 width num (ps v0))):=by
 have hl:ws.length=2:=Int.ofNat.inj ag;have iL:bi (ws.map Int.ofNat) 0=bi (ws.map Int.ofNat) 1∧(width:Int)=1:=jN ej;have zo:width=1:=by omega
 subst zo;obtain⟨w1,F⟩:=Dn (ws:=ws) (k:=1) (by omega);have e:=iL.1;rw[at_get F] at e;exact(asL ah h (num:=num) (ad.num (at_nat (by omega) e)) (ad.num F)).mono (by have:=Oj F;show _<=40*(1+ws.sum) - 1;omega)
theorem avD (ah:1<=first) (h:bI first hs) (ad:oo first hs bv ws ps) (ag:(ws.length:Int)=ew 21) (ej:hX 21 width num (ws.map Int.ofNat)=true):ci first hs (iM first ins regs mems hs ⟨21,(width:Int),(num:Int),args,da,dc⟩ bv) (40*nx 21 width ws - 1) (fun v0=>aP width (hh 21 width num (ps v0))):=by
 have hl:ws.length=2:=Int.ofNat.inj ag;have iL:bi (ws.map Int.ofNat) 0=bi (ws.map Int.ofNat) 1∧(width:Int)=1:=jN ej;have zo:width=1:=by omega
 subst zo;obtain⟨w1,F⟩:=Dn (ws:=ws) (k:=1) (by omega);have e:=iL.1;rw[at_get F] at e;exact(asO ah h (num:=num) (ad.num (at_nat (by omega) e)) (ad.num F)).mono (by have:=Oj F;show _<=40*(1+ws.sum) - 1;omega)
theorem avE (ah:1<=first) (h:bI first hs) (ad:oo first hs bv ws ps) (bT:1<=width) (ag:(ws.length:Int)=ew 22) (ej:hX 22 width num (ws.map Int.ofNat)=true):ci first hs (iM first ins regs mems hs ⟨22,(width:Int),(num:Int),args,da,dc⟩ bv) (40*nx 22 width ws - 1) (fun v0=>aP width (hh 22 width num (ps v0))):=by
 have hl:ws.length=3:=Int.ofNat.inj ag;have iL:bi (ws.map Int.ofNat) 0=1∧bi (ws.map Int.ofNat) 1=width∧bi (ws.map Int.ofNat) 2=width:=jN ej;exact(asN ah h (num:=num) (ad.num (at_nat (by omega) iL.1)) (ad.num (at_nat (by omega) iL.2.1)) (ad.num (at_nat (by omega) iL.2.2))).mono (by show _<=40*(width+ws.sum) - 1;omega)
theorem avJ (ah:1<=first) (h:bI first hs) (ad:oo first hs bv ws ps) (ag:(ws.length:Int)=ew 9) (ej:hX 9 width num (ws.map Int.ofNat)=true):ci first hs (iM first ins regs mems hs ⟨9,(width:Int),(num:Int),args,da,dc⟩ bv) (40*nx 9 width ws - 1) (fun v0=>aP width (hh 9 width num (ps v0))):=by
 have hl:ws.length=1:=Int.ofNat.inj ag;have iL:(width:Int)=1:=jN ej;have zo:width=1:=by omega
 subst zo;obtain⟨az,aI⟩:=Dn (ws:=ws) (k:=0) (by omega);refine((asH ah h (num:=num) (ad.num aI)).to (fun v0 L=>?_)).mono (by have:=Oj aI;show _<=40*(1+ws.sum) - 1;omega);have e:tD (ps v0) 0=az:=by
  have:=aI
  rw[<-ad.snd v0 L,fT] at this;rw[tD,this];rfl
 show aP 1 (n6 (decide (g9 (ps v0) 0=2^az - 1)))=aP 1 (n6 (decide (g9 (ps v0) 0=2^tD (ps v0) 0 - 1)));rw[e]
theorem avs (ah:1<=first) (h:bI first hs) (ad:oo first hs bv ws ps) (ag:(ws.length:Int)=ew 10) (ej:hX 10 width num (ws.map Int.ofNat)=true):ci first hs (iM first ins regs mems hs ⟨10,(width:Int),(num:Int),args,da,dc⟩ bv) (40*nx 10 width ws - 1) (fun v0=>aP width (hh 10 width num (ps v0))):=by
 have hl:ws.length=1:=Int.ofNat.inj ag;have iL:(width:Int)=1:=jN ej;have zo:width=1:=by omega
 subst zo;obtain⟨az,aI⟩:=Dn (ws:=ws) (k:=0) (by omega);rw[afl];exact((asJ ah h (num:=num) (ad.num aI)).to (fun v0 _=>by rw[afz,afz,M3])).mono (by have:=Oj aI;show _<=40*(1+ws.sum) - 1;omega)
theorem avt (ah:1<=first) (h:bI first hs) (ad:oo first hs bv ws ps) (hg:∀w,w∈ws->w<=32) (ag:(ws.length:Int)=ew 11) (ej:hX 11 width num (ws.map Int.ofNat)=true):ci first hs (iM first ins regs mems hs ⟨11,(width:Int),(num:Int),args,da,dc⟩ bv) (40*nx 11 width ws - 1) (fun v0=>aP width (hh 11 width num (ps v0))):=by
 have hl:ws.length=1:=Int.ofNat.inj ag;have iL:(width:Int)=1:=jN ej;have zo:width=1:=by omega
 subst zo;obtain⟨az,aI⟩:=Dn (ws:=ws) (k:=0) (by omega);rw[afm];exact((asS ah h (by have:=hg az (bn aI);omega) (num:=num) (ad.num aI)).to (fun v0 _=>by rw[afA,afA,M3])).mono (by have:=Oj aI;show _<=40*(1+ws.sum) - 1;omega)
theorem avI (h:bI first hs) (ad:oo first hs bv ws ps) (aw:width<=32) (ag:(ws.length:Int)=ew 8) (ej:hX 8 width num (ws.map Int.ofNat)=true):ci first hs (iM first ins regs mems hs ⟨8,(width:Int),(num:Int),args,da,dc⟩ bv) (40*nx 8 width ws - 1) (fun v0=>aP width (hh 8 width num (ps v0))):=by
 have hl:ws.length=1:=Int.ofNat.inj ag;have iL:bi (ws.map Int.ofNat) 0=width:=jN ej;have aI:ws[0]?=some width:=at_nat (by omega) iL;rw[afq];exact((asQ h (num:=num) (by omega) (ad.num aI)).to (fun v0 _=>by rw[afD,afD,M3])).mono (by show _<=40*(width+ws.sum) - 1;omega)
theorem avG (ah:1<=first) (h:bI first hs) (ad:oo first hs bv ws ps) (ag:(ws.length:Int)=ew 6) (_:hX 6 width num (ws.map Int.ofNat)=true):ci first hs (iM first ins regs mems hs ⟨6,(width:Int),(num:Int),args,da,dc⟩ bv) (40*nx 6 width ws - 1) (fun v0=>aP width (hh 6 width num (ps v0))):=by
 have hl:ws.length=1:=Int.ofNat.inj ag;obtain⟨az,aI⟩:=Dn (ws:=ws) (k:=0) (by omega);rw[afo];exact((asM ah h (num:=num) (ad.num aI)).to (fun v0 _=>by rw[afC,afC,M3])).mono (by show _<=40*(width+ws.sum) - 1;omega)
theorem avF (h:bI first hs) (ad:oo first hs bv ws ps) (ag:(ws.length:Int)=ew 5) (ej:hX 5 width num (ws.map Int.ofNat)=true):ci first hs (iM first ins regs mems hs ⟨5,(width:Int),(num:Int),args,da,dc⟩ bv) (40*nx 5 width ws - 1) (fun v0=>aP width (hh 5 width num (ps v0))):=by
 have hl:ws.length=1:=Int.ofNat.inj ag;have iL:(num:Int)<bi (ws.map Int.ofNat) 0∧(num:Int)+width<=bi (ws.map Int.ofNat) 0:=jN ej;obtain⟨az,aI⟩:=Dn (ws:=ws) (k:=0) (by omega);rw[at_get aI] at iL;rw[afn];exact((asW h (num:=num) (ad.num aI) (by omega)).to (fun v0 _=>by rw[afB,afB,M3])).mono (by show _<=40*(width+ws.sum) - 1;omega)
theorem avH (h:bI first hs) (ad:oo first hs bv ws ps) (ej:hX 7 width num (ws.map Int.ofNat)=true):ci first hs (iM first ins regs mems hs ⟨7,(width:Int),(num:Int),args,da,dc⟩ bv) (40*nx 7 width ws - 1) (fun v0=>aP width (hh 7 width num (ps v0))):=by
 have iL:(ws.map Int.ofNat).sum=width:=jN ej;rw[auZ] at iL;have e:width=ws.sum:=by omega
 subst e;rw[afp];exact(asK h ad _ num).mono (cE _)
theorem avr (ah:1<=first) (h:bI first hs):ci first hs (iM first ins regs mems hs ⟨1,(width:Int),(num:Int),args,da,dc⟩ bv) (40*nx 1 width ws - 1) (fun v0=>aP width (hh 1 width num (ps v0))) :=
 (asR ah h).mono (cE _)
theorem ase (ah:1<=first) (h:bI first hs) (ad:oo first hs bv ws ps) (bT:1<=width) (aw:width<=32) (hg:∀w,w∈ws->w<=32) {kind:Int} (X:kind=1∨kind=5∨kind=6∨kind=7∨kind=8∨kind=9∨kind=10∨kind=11∨(12<=kind∧kind<=22)) (ag:0<=ew kind->(ws.length:Int)=ew kind) (ej:hX kind width num (ws.map Int.ofNat)=true) :
  ci first hs (iM first ins regs mems hs ⟨kind,(width:Int),(num:Int),args,da,dc⟩ bv) (40*nx kind width ws - 1) (fun v0=>aP width (hh kind width num (ps v0))):=by
 have bz:kind=1∨kind=5∨kind=6∨kind=7∨kind=8∨kind=9∨kind=10∨kind=11∨kind=12∨kind=13∨kind=14∨kind=15∨kind=16∨kind=17∨kind=18∨kind=19∨kind=20∨kind=21∨kind=22:=by omega
 rcases bz with rfl | rfl | rfl | rfl | rfl | rfl | rfl | rfl | rfl | rfl | rfl | rfl | rfl | rfl | rfl | rfl | rfl | rfl | rfl
 ·exact avr ah h
 ·exact avF h ad (ag (by decide)) ej
 ·exact avG ah h ad (ag (by decide)) ej
 ·exact avH h ad ej
 ·exact avI h ad aw (ag (by decide)) ej
 ·exact avJ ah h ad (ag (by decide)) ej
 ·exact avs ah h ad (ag (by decide)) ej
 ·exact avt ah h ad hg (ag (by decide)) ej
 ·exact avu ah h ad bT (ag (by decide)) ej
 ·exact avv ah h ad bT (ag (by decide)) ej
 ·exact avw ah h ad bT (ag (by decide)) ej
 ·exact avx ah h ad bT aw (ag (by decide)) ej
 ·exact avy ah h ad bT aw (ag (by decide)) ej
 ·exact avz ah h ad bT aw (ag (by decide)) ej
 ·exact avA ah h ad bT aw hg (ag (by decide)) ej
 ·exact avB ah h ad bT aw hg (ag (by decide)) ej
 ·exact avC ah h ad (ag (by decide)) ej
 ·exact avD ah h ad (ag (by decide)) ej
 ·exact avE ah h ad bT (ag (by decide)) ej
end
theorem avK {first:Nat} (ah:1<=first) {hs:List Z} (h:bI first hs) {ms:List (List Int)} (Rf:1<=ms.length) (bO:∀w,w∈ms->bt first hs w) {I w:Nat} (av:1<=I) (aw:w<=32) {l:List Int} {A:List Bool->Nat} {a9:List Bool->List Nat} (hl:eD first hs l w A) (kV:∀v0,iq first v0->ms.map (cp v0 hs)=(a9 v0).map (aP I)) :
  ci first hs (IW first hs ms I l) (40*(I*ms.length) - 1) (fun v0=>aP I (((a9 v0)[A v0]?).getD 0)):=by
 refine(atY ah ms Rf I l hs h hl.inl bO A a9 (fun v0 L=>by rw[hl.len];exact⟨hl.val v0 L,hl.lt v0 L⟩) kV).mono ?_;rw[hl.len,Nat.mul_left_comm];have F:1*ms.length<=I*ms.length:=Nat.mul_le_mul_right _ av;omega
theorem akJ {first:Nat} {hs:List Z} {N:aR} {wl:List (List Int)} {am:List Bool->List Nat} {args:List Int} (h:∀a,a∈args->eD first hs (wl.getD a.toNat []) (f2 N a).toNat (fun v0=>gR (am v0) a)) :
  oo first hs (args.map fun a=>wl.getD a.toNat []) (args.map fun a=>(f2 N a).toNat) (fun v0=>vL N (am v0) args):=by
 refine⟨fun l hl=>?_,?_,fun v0 _=>?_,fun v0 L=>?_,fun v0 L p aE=>?_⟩
 ·obtain⟨a,ad,rfl⟩:=i6.1 hl;exact(h a ad).inl
 ·rw[List.map_map];exact o8 (fun a ad=>(h a ad).len)
 ·rw[vL,List.map_map];rfl
 ·rw[vL,List.map_map,List.map_map];exact o8 (fun a ad=>(h a ad).val v0 L)
 ·obtain⟨a,ad,rfl⟩:=i6.1 aE;exact(h a ad).lt v0 L
def m5 (N:aR) (d:eO):Nat :=
 if d.kind=32 then ((N.mems[d.num.toNat]?.map hf.width).getD 0).toNat*((N.mems[d.num.toNat]?.map hf.words).getD 0).toNat
 else nx d.kind d.width.toNat (d.args.map fun a=>(f2 N a).toNat)
theorem asb {first:Nat} (ah:1<=first) {hs:List Z} (h:bI first hs) {ins regs:List (List Int)} {mems:List (List (List Int))} {N:aR} {wl:List (List Int)} {am:List Bool->List Nat} {gI G:List Bool->List Nat} {a9:List Bool->List (List Nat)} (d:eO)
  (X:d.kind=1∨d.kind=5∨d.kind=6∨d.kind=7∨d.kind=8∨d.kind=9∨d.kind=10∨d.kind=11∨(12<=d.kind∧d.kind<=22)) (aw:1<=d.width∧d.width<=32) (yG:0<=d.num)
  (ag:0<=ew d.kind->(d.args.length:Int)=ew d.kind) (ej:hX d.kind d.width d.num (cG N d.args)=true) (aE:∀a,a∈d.args->0<=f2 N a∧f2 N a<=32)
  (ad:∀a,a∈d.args->eD first hs (wl.getD a.toNat []) (f2 N a).toNat (fun v0=>gR (am v0) a)) :
  ci first hs (iM first ins regs mems hs d (d.args.map fun a=>wl.getD a.toNat [])) (40*m5 N d - 1) (fun v0=>aP d.width.toNat (lY N (gI v0) (G v0) (a9 v0) (am v0) d)):=by
 obtain⟨kind,width,num,args,da,dc⟩:=d;dsimp only at *;obtain⟨I,rfl⟩:∃I:Nat,width=I:=⟨width.toNat,by omega⟩
 obtain⟨aj,rfl⟩:∃aj:Nat,num=aj:=⟨num.toNat,by omega⟩
 have Fq:(args.map fun a=>(f2 N a).toNat).map Int.ofNat=cG N args:=by
  rw[cG,List.map_map];exact o8 (fun a ae=>by have:=(aE a ae).1;show(((f2 N a).toNat:Nat):Int)=_;omega)
 have L:=ase (ins:=ins) (regs:=regs) (mems:=mems) (args:=args) (da:=da) (dc:=dc) (num:=aj) (width:=I) ah h (akJ ad) (by omega) (by omega)
  (fun w ae=>by obtain⟨a,cq,rfl⟩:=i6.1 ae;have:=(aE a cq).2;omega) X (by rw[lb];exact ag) (by rw[Fq];exact ej)
 have bp:m5 N ⟨kind,(I:Int),(aj:Int),args,da,dc⟩=nx kind I (args.map fun a=>(f2 N a).toNat):=by
  unfold m5;rw[if_neg (by show ¬kind=32;omega)]
  rfl
 rw[bp];refine L.to (fun v0 _=>?_);unfold lY;rw[if_neg (by show ¬kind=30;omega),if_neg (by show ¬kind=31;omega),if_neg (by show ¬kind=32;omega)]
 rfl
section
variable {first:Nat} {hs:List Z} {ins regs:List (List Int)} {mems:List (List (List Int))} {N:aR} {wl bv:List (List Int)} {am:List Bool->List Nat} {gI G:List Bool->List Nat} {a9:List Bool->List (List Nat)}
theorem eD.known {l:List Int} {w:Nat} {cu:List Bool->Nat} (h:bI first hs) (hl:eD first hs l w cu) (n:Nat):ci first hs (hs,l) n (fun v0=>aP w (cu v0)):=(ci.known h hl.inl n).to hl.val
theorem ar8 (h:bI first hs) (d:eO) (X:d.kind=30) (Vn:∀v0,iq first v0->d.num<((gI v0).length:Int))
  (hi:eD first hs (ins.getD d.num.toNat []) d.width.toNat (fun v0=>((gI v0)[d.num.toNat]?).getD 0)) :
  ci first hs (iM first ins regs mems hs d bv) (40*m5 N d - 1) (fun v0=>aP d.width.toNat (lY N (gI v0) (G v0) (a9 v0) (am v0) d)):=by
 obtain⟨kind,width,num,args,da,dc⟩:=d;dsimp only at *;subst X;refine(hi.known h _).to (fun v0 L=>?_);show _=aP width.toNat (if num<((gI v0).length:Int) then ((gI v0)[num.toNat]?).getD 0%2^width.toNat else 0);rw[if_pos (Vn v0 L),tE]
theorem asc (h:bI first hs) (d:eO) (X:d.kind=31) (hi:eD first hs (regs.getD d.num.toNat []) d.width.toNat (fun v0=>((G v0)[d.num.toNat]?).getD 0)) :
  ci first hs (iM first ins regs mems hs d bv) (40*m5 N d - 1) (fun v0=>aP d.width.toNat (lY N (gI v0) (G v0) (a9 v0) (am v0) d)):=by
 obtain⟨kind,width,num,args,da,dc⟩:=d;dsimp only at *;subst X;exact hi.known h _
theorem ar9 (ah:1<=first) (h:bI first hs) (d:eO) (X:d.kind=32) (aw:1<=d.width) (H1:d.args.length=1) (aE:∀a,a∈d.args->f2 N a<=32)
  (lW:(N.mems[d.num.toNat]?.map hf.width).getD 0=d.width) (rF:((mems.getD d.num.toNat []).length:Int)=(N.mems[d.num.toNat]?.map hf.words).getD 0) (cn:1<=(mems.getD d.num.toNat []).length)
  (bO:∀w,w∈mems.getD d.num.toNat []->bt first hs w) (kV:∀v0,iq first v0->(mems.getD d.num.toNat []).map (cp v0 hs)=(((a9 v0)[d.num.toNat]?).getD []).map (aP d.width.toNat))
  (ad:∀a,a∈d.args->eD first hs (wl.getD a.toNat []) (f2 N a).toNat (fun v0=>gR (am v0) a)) :
  ci first hs (iM first ins regs mems hs d (d.args.map fun a=>wl.getD a.toNat [])) (40*m5 N d - 1) (fun v0=>aP d.width.toNat (lY N (gI v0) (G v0) (a9 v0) (am v0) d)):=by
 obtain⟨kind,width,num,args,da,dc⟩:=d;dsimp only at *;subst X;obtain⟨a,rfl⟩:∃a,args=[a]:=List.length_eq_one_iff.1 H1;have F:=aE a qe;have bp:m5 N ⟨32,width,num,[a],da,dc⟩=width.toNat*(mems.getD num.toNat []).length:=by
  show((N.mems[num.toNat]?.map hf.width).getD 0).toNat*((N.mems[num.toNat]?.map hf.words).getD 0).toNat=_
  rw[lW,<-rF];rfl
 rw[bp];have O:1<=width.toNat:=by omega
 exact avK ah h cn bO O (by omega) (ad a qe) kV
end
def AL (first:Nat) (ins regs:List (List Int)) (mems:List (List (List Int))) (N:aR) (need:List Bool) (hs:List Z):Nat->List Z×List (List Int)
 | 0=>(hs,List.replicate N.nodes.length [])
 | i+1 =>
  let s:=AL first ins regs mems N need hs i
  match N.nodes[i]? with
  | some d=>if need[i]?=some true then
    let q:=iM first ins regs mems s.1 d (d.args.map fun a=>s.2.getD a.toNat [])
    (q.1,s.2.set i q.2) else s
  | none=>s
def Bq (N:aR) (need:List Bool):Nat->Nat
 | 0=>0
 | i+1=>Bq N need i+(match N.nodes[i]? with | some d=>if need[i]?=some true then 40*m5 N d - 1 else 0 | none=>0)
section
variable {first:Nat} (ah:1<=first) {hs:List Z} (h:bI first hs) {ins regs:List (List Int)} {mems:List (List (List Int))} {N:aR} {need:List Bool} {gI G:List Bool->List Nat} {a9:List Bool->List (List Nat)}
structure PV (first:Nat) (hs:List Z) (N:aR) (need:List Bool) (gI G:List Bool->List Nat) (a9:List Bool->List (List Nat)) (i n:Nat) (s:List Z×List (List Int)):Prop where
 gd:fU first hs s.1 n
 len:s.2.length=N.nodes.length
 num:∀a:Int,0<=a->a<i->need[a.toNat]?=some true->eD first s.1 (s.2.getD a.toNat []) (f2 N a).toNat (fun v0=>gR (ky N (gI v0) (G v0) (a9 v0) i) a)
theorem ahR {N:aR} {r g:List Nat} {m:List (List Nat)} {i:Nat} {a:Int} (aI:0<=a) (F:a<i):gR (ky N r g m (i+1)) a=gR (ky N r g m i) a:=by
 unfold gR;rw[acl N r g m i a.toNat (by omega)]
theorem afs (ah:1<=first) (h:bI first hs) (gB:∀(i:Nat) (d:eO),N.nodes[i]?=some d->need[i]?=some true->∀a,a∈d.args->0<=a∧a<i∧need[a.toNat]?=some true)
  (aB:∀(i:Nat) (d:eO),N.nodes[i]?=some d->∀v0,iq first v0->lY N (gI v0) (G v0) (a9 v0) (ky N (gI v0) (G v0) (a9 v0) i) d<2^d.width.toNat)
  (aoN:∀(i:Nat) (d:eO) (nt:List Z) (n:Nat) (wl:List (List Int)),N.nodes[i]?=some d->need[i]?=some true->fU first hs nt n ->
   (∀a,a∈d.args->eD first nt (wl.getD a.toNat []) (f2 N a).toNat (fun v0=>gR (ky N (gI v0) (G v0) (a9 v0) i) a)) ->
   ci first nt (iM first ins regs mems nt d (d.args.map fun a=>wl.getD a.toNat [])) (40*m5 N d - 1) (fun v0=>aP d.width.toNat (lY N (gI v0) (G v0) (a9 v0) (ky N (gI v0) (G v0) (a9 v0) i) d)))
  (i:Nat) (hi:i<=N.nodes.length):PV first hs N need gI G a9 i (Bq N need i) (AL first ins regs mems N need hs i):=by
 induction i with
 | zero=>exact⟨fU.refl h _,by simp[AL],fun a aI F=>by omega⟩
 | succ i aA =>
  have yy:=aA (by omega);have U:N.nodes[i]?=some N.nodes[i]:=ct (by omega);generalize N.nodes[i]=d at U;unfold AL Bq;simp only[U];generalize AL first ins regs mems N need hs i=s at yy;by_cases ag:need[i]?=some true
  ·rw[if_pos ag,if_pos ag];have aw:=aoN i d s.1 _ s.2 U ag yy.gd (fun a ad=>by obtain⟨aI,F,O⟩:=gB i d U ag a ad;exact yy.num a aI F O);have a8:=eD.of ah aw (aB i d U);generalize iM first ins regs mems s.1 d (d.args.map fun a=>s.2.getD a.toNat [])=q at aw a8;refine⟨yy.gd.trans aw.gd,by simp[yy.len],fun a aI F O=>?_⟩;by_cases ad:a<i
   ·have bp:(s.2.set i q.2).getD a.toNat []=s.2.getD a.toNat []:=by
     rw[iH,iH,ve (by omega)]
    have:=(yy.num a aI ad O).to aw.gd
    simp only[ahR aI ad];show eD first q.1 ((s.2.set i q.2).getD a.toNat []) _ _;rw[bp];exact this
   ·have bQ:a.toNat=i:=by omega
    have bp:(s.2.set i q.2).getD a.toNat []=q.2:=by
     rw[iH,bQ,t6 (by rw[yy.len];omega)];rfl
    have aS:(f2 N a).toNat=d.width.toNat:=by unfold f2;rw[bQ,U];rfl
    show eD first q.1 ((s.2.set i q.2).getD a.toNat []) _ _;rw[bp,aS];have bM:(fun v0=>gR (ky N (gI v0) (G v0) (a9 v0) (i+1)) a)=fun v0=>lY N (gI v0) (G v0) (a9 v0) (ky N (gI v0) (G v0) (a9 v0) i) d:=by
     funext v0
     unfold gR;rw[UJ N _ _ _ i d U,bQ,lu (by rw[Ai];omega),Ai];simp
    rw[bM];exact a8
  ·rw[if_neg ag,if_neg ag];refine⟨yy.gd,yy.len,fun a aI F O=>?_⟩;have ad:a<i:=by
    rcases Int.lt_or_le a i with aW | aW
    ·exact aW
    ·have:a.toNat=i:=by omega
     rw[this] at O;exact absurd O ag
   simp only[ahR aI ad];exact yy.num a aI ad O
end
structure E9 (first:Nat) (hs:List Z) (N:aR) (ins regs:List (List Int)) (mems:List (List (List Int))) (gI G:List Bool->List Nat) (a9:List Bool->List (List Nat)):Prop where
 rl:∀v0,iq first v0->(gI v0).length=N.ins.length
 inN:∀(k:Nat) (x:Int),N.ins[k]?=some x->eD first hs (ins.getD k []) x.toNat (fun v0=>((gI v0)[k]?).getD 0)
 rgN:∀(k:Nat) (z:l4),N.regs[k]?=some z->eD first hs (regs.getD k []) z.width.toNat (fun v0=>((G v0)[k]?).getD 0)
 mmN:∀(k:Nat) (z:hf),N.mems[k]?=some z->((mems.getD k []).length:Int)=z.words∧1<=(mems.getD k []).length∧(∀w,w∈mems.getD k []->bt first hs w)∧∀v0,iq first v0->(mems.getD k []).map (cp v0 hs)=(((a9 v0)[k]?).getD []).map (aP z.width.toNat)
theorem E9.to {first:Nat} {hs nt:List Z} {n:Nat} (g:fU first hs nt n) {N:aR} {ins regs:List (List Int)} {mems:List (List (List Int))} {gI G:List Bool->List Nat} {a9:List Bool->List (List Nat)} (h:E9 first hs N ins regs mems gI G a9):E9 first nt N ins regs mems gI G a9 :=
 ⟨h.rl,fun k x J=>(h.inN k x J).to g,fun k z ao=>(h.rgN k z ao).to g,fun k z ao =>
  ⟨(h.mmN k z ao).1,(h.mmN k z ao).2.1,fun w aw=>g.allIn ((h.mmN k z ao).2.2.1 w aw),fun v0 L=>by
   rw[<-(h.mmN k z ao).2.2.2 v0 L];exact o8 (fun w aw=>g.vls ((h.mmN k z ao).2.2.1 w aw) L)⟩⟩
theorem Jm {N:aR} (h:er N=true) {a:Int} (F:a.toNat<N.nodes.length):1<=f2 N a∧f2 N a<=32:=by
 have aF:N.nodes[a.toNat]?=some N.nodes[a.toNat]:=ct F;have vC:=CH (ty (uL h aF)).1;unfold f2;rw[aF];exact vC
theorem Xt {first:Nat} (ah:1<=first) {hs:List Z} (h:bI first hs) {ins regs:List (List Int)} {mems:List (List (List Int))} {N:aR} {wl:List (List Int)} {am:List Bool->List Nat} {gI G:List Bool->List Nat} {a9:List Bool->List (List Nat)}
  (aG:er N=true) (jR:E9 first hs N ins regs mems gI G a9) {i:Nat} {d:eO} (U:N.nodes[i]?=some d) (yG:0<=d.num)
  (ad:∀a,a∈d.args->eD first hs (wl.getD a.toNat []) (f2 N a).toNat (fun v0=>gR (am v0) a)) :
  ci first hs (iM first ins regs mems hs d (d.args.map fun a=>wl.getD a.toNat [])) (40*m5 N d - 1) (fun v0=>aP d.width.toNat (lY N (gI v0) (G v0) (a9 v0) (am v0) d)):=by
 obtain⟨aY,bO,ay⟩:=ty (uL aG U);have aw:=CH aY;have aB:i<N.nodes.length:=(cr.1 U).1;have aE:∀a,a∈d.args->1<=f2 N a∧f2 N a<=32:=fun a ae=>Jm aG (by have:=bO a ae;omega)
 unfold lj at ay;by_cases kd:d.kind=30
 ·rw[if_pos kd] at ay;have ay:=jN ay;have J:N.ins[d.num.toNat]?=some d.width:=by rw[vr (l:=N.ins) (k:=d.num.toNat) (by omega),ay.2]
  exact ar8 h d kd (fun v0 L=>by rw[jR.rl v0 L];exact ay.1) (jR.inN _ _ J)
 rw[if_neg kd] at ay;by_cases lD:d.kind=31
 ·rw[if_pos lD] at ay;have ay:=jN ay;have J:N.regs[d.num.toNat]?=some (N.regs[d.num.toNat]'(by omega)):=ct (by omega);have e:=ay.2;rw[J] at e;have e:(N.regs[d.num.toNat]'(by omega)).width=d.width:=e
  have:=jR.rgN _ _ J
  rw[e] at this;exact asc h d lD this
 rw[if_neg lD] at ay;by_cases kq:d.kind=32
 ·rw[if_pos kq] at ay;have ay:=jN ay;have J:N.mems[d.num.toNat]?=some (N.mems[d.num.toNat]'(by omega)):=ct (by omega);have e:=ay.2;rw[J] at e;have e:(N.mems[d.num.toNat]'(by omega)).width=d.width:=e;obtain⟨m1,m2,nU,IG⟩:=jR.mmN _ _ J;rw[e] at IG;have pq:(d.args.length:Int)=ew d.kind:=zy aY rfl (by rw[kq];decide);rw[kq] at pq;exact ar9 ah h d kq aw.1 (Int.ofNat.inj pq) (fun a ae=>(aE a ae).2) ay.2 (by rw[J];exact m1) m2 nU IG ad
 rw[if_neg kq] at ay;have ej:hX d.kind d.width d.num (cG N d.args)=true:=by
  by_cases nK:d.kind=1∨d.kind=5
  ·rw[if_pos nK] at ay;exact ay
  ·rw[if_neg nK] at ay;exact(jN ay).2
 have N4:ew d.kind≠-2:=fun e=>aY (.inr (.inl e))
 refine asb ah h d ?_ aw yG (fun aI=>zy aY rfl aI) ej (fun a ae=>⟨by have:=(aE a ae).1;omega,(aE a ae).2⟩) ad;rcases LJ d.kind with kZ | kZ
 ·omega
 ·exact absurd (by unfold ew;rw[if_neg (by omega),if_neg (by omega),if_neg (by omega),if_neg (by omega),if_neg (by omega)]) N4
theorem asf {Y:Nat} {w:World} {S:dp} {first:Nat} (ah:1<=first) {hs:List Z} (h:bI first hs) {ins regs:List (List Int)} {mems:List (List (List Int))} {N:aR} {need:List Bool} {gI G:List Bool->List Nat} {a9:List Bool->List (List Nat)}
  (aO:eM Y w S N) (aG:er N=true) (gB:lR N need) (jR:E9 first hs N ins regs mems gI G a9) (ik:∀v0,iq first v0->vq N (G v0) (a9 v0)) :
  PV first hs N need gI G a9 N.nodes.length (Bq N need N.nodes.length) (AL first ins regs mems N need hs N.nodes.length):=by
 refine afs ah h (fun i d U ag a ad=>?_) (fun i d U v0 L=>?_) (fun i d nt n wl U _ g ad=>?_) _ (aL _)
 ·have F:=(ty (uL aG U)).2.1 a ad;exact⟨F.1,F.2,gB.args i d U ag a ad⟩
 ·exact Xs aO aG _ _ _ (ik v0 L) U _ (by rw[Ai];exact aL _) (M0 aO aG _ _ _ (ik v0 L) i)
 ·exact Xt ah g.ok aG (jR.to g) U (by have:=aO.na d (bn U);omega) ad
def CI (first:Nat) (hs:List Z) (ws:List (List Int)) (ie:List Int) (h9:Int) (data:List Int):List Z×List (List Int) :=
 qE first data (nT first hs ws.length ie h9).1 (nT first hs ws.length ie h9).2 ws
theorem awZ (q:Bool) (A nF I:Nat) (l:List Nat):List.zipWith (fun(b:Bool) w=>if b then aP I nF else w) (o2 q A l.length) (l.map (aP I))=(if q=true∧A<l.length then l.set A nF else l).map (aP I):=by
 by_cases ar:q=true∧A<l.length
 ·rw[if_pos ar];obtain⟨rfl,gV⟩:=ar;apply List.ext_getElem
  ·simp[o2]
  ·intro k F O;simp only[o2,List.getElem_zipWith,List.getElem_map,List.getElem_range,List.getElem_set,Bool.true_and,decide_eq_true_eq];by_cases e:A=k <;> simp[e]
 ·rw[if_neg ar];apply List.ext_getElem
  ·simp[o2]
  ·intro k F O;have X:k<l.length:=by simpa using O
   simp only[o2,List.getElem_zipWith,List.getElem_map,List.getElem_range];rw[if_neg];intro aJ;rw[Bool.and_eq_true,decide_eq_true_eq] at aJ;exact ar ⟨aJ.1,by omega⟩
theorem awK {first:Nat} (ah:1<=first) {hs:List Z} (h:bI first hs) {ws:List (List Int)} (hg:1<=ws.length) (bO:∀x,x∈ws->bt first hs x) {I w:Nat} (av:1<=I) (aw:w<=32) (aU:∀x,x∈ws->x.length=I) {ie data:List Int} {h9:Int} {A nF:List Bool->Nat} {q:List Bool->Bool} {a9:List Bool->List Nat}
  (gV:eD first hs ie w A) (mY:eD first hs data I nF) (kf:bN first hs h9) (aJ:∀v0,iq first v0->gG v0 hs h9=q v0) (kV:∀v0,iq first v0->ws.map (cp v0 hs)=(a9 v0).map (aP I)) :
  abu first hs (CI first hs ws ie h9 data) (40*(I*ws.length) - 1) (fun v0=>(if q v0=true∧A v0<(a9 v0).length then (a9 v0).set (A v0) (nF v0) else a9 v0).map (aP I)):=by
 have F:=RP ah ws.length hg ie h9 hs h gV.inl kf A (fun v0 L=>by rw[gV.len];exact⟨gV.val v0 L,gV.lt v0 L⟩);unfold CI;generalize nT first hs ws.length ie h9=ba at *;have O:=YG ah data ba.2 ws ba.1 F.gd.ok (F.gd.allIn mY.inl) F.inl (fun x J=>F.gd.allIn (bO x J)) (fun x J=>by rw[aU x J,mY.len]);refine⟨(F.gd.trans O.gd).mono ?_,O.inl,fun v0 L=>?_⟩
 ·rw[gV.len,mY.len,Nat.mul_assoc];have aW:1*ws.length<=I*ws.length:=Nat.mul_le_mul_right _ av;omega
 ·rw[O.val v0 L,F.gd.vls mY.inl L,F.val v0 L,mY.val v0 L,aJ v0 L];rw[show ws.map (cp v0 ba.1)=ws.map (cp v0 hs) from o8 (fun x J=>F.gd.vls (bO x J) L),kV v0 L];have e:ws.length=(a9 v0).length:=by
   have:=congrArg List.length (kV v0 L)
   simpa using this
  rw[e];exact awZ _ _ _ _ _
def qF (first:Nat) (wl:List (List Int)):List jz->List Z->List (List (List Int))->List Z×List (List (List Int))
 | [],hs,ms=>(hs,ms)
 | z::r,hs,ms =>
  let q:=CI first hs (ms.getD z.mem.toNat []) (wl.getD z.addr.toNat []) ((wl.getD z.when_.toNat []).getD 0 0) (wl.getD z.data.toNat [])
  qF first wl r q.1 (ms.set z.mem.toNat q.2)
structure xh (first:Nat) (hs:List Z) (N:aR) (ms:List (List (List Int))) (a9:List Bool->List (List Nat)):Prop where
 len:ms.length=N.mems.length
 ml:∀v0,iq first v0->(a9 v0).length=N.mems.length
 each:∀(k:Nat) (z:hf),N.mems[k]?=some z->((ms.getD k []).length:Int)=z.words∧1<=(ms.getD k []).length∧(∀x,x∈ms.getD k []->bt first hs x∧x.length=z.width.toNat)∧∀v0,iq first v0->(ms.getD k []).map (cp v0 hs)=(((a9 v0)[k]?).getD []).map (aP z.width.toNat)
def EJ (N:aR) (z:jz):Nat:=(qy N z.mem).toNat*((N.mems[z.mem.toNat]?.map hf.words).getD 0).toNat
def O2 (N:aR) (hL:List jz):Nat:=(hL.map fun z=>40*EJ N z - 1).sum
theorem awz (am:List Nat) (ls:List (List Nat)) (z:jz):(t5 am ls z).length=ls.length:=by
 unfold t5;split
 ·split <;> simp
 ·rfl
structure BM (first:Nat) (hs:List Z) (N:aR) (wl:List (List Int)) (am:List Bool->List Nat) (z:jz):Prop where
 mem:z.mem.toNat<N.mems.length
 when_:eD first hs (wl.getD z.when_.toNat []) 1 (fun v0=>gR (am v0) z.when_)
 addr:∃w,w<=32∧eD first hs (wl.getD z.addr.toNat []) w (fun v0=>gR (am v0) z.addr)
 data:eD first hs (wl.getD z.data.toNat []) (qy N z.mem).toNat (fun v0=>gR (am v0) z.data)
theorem BM.to {first:Nat} {hs nt:List Z} {n:Nat} (g:fU first hs nt n) {N:aR} {wl:List (List Int)} {am:List Bool->List Nat} {z:jz} (h:BM first hs N wl am z):BM first nt N wl am z :=
 ⟨h.mem,h.when_.to g,by obtain⟨w,F,O⟩:=h.addr;exact⟨w,F,O.to g⟩,h.data.to g⟩
theorem getD_set_ne {α:Type} {l:List α} {i j:Nat} {x d:α} (h:i≠j):(l.set i x).getD j d=l.getD j d:=by
 rw[iH,iH,ve h]
theorem am1 {α:Type} {l:List α} {i:Nat} {x d:α} (h:i<l.length):(l.set i x).getD i d=x:=by
 rw[iH,t6 h];rfl
theorem abO {first:Nat} {hs:List Z} {l:List Int} {cu:List Bool->Nat} (h:eD first hs l 1 cu):bN first hs (l.getD 0 0)∧∀v0,iq first v0->gG v0 hs (l.getD 0 0)=decide (cu v0≠0):=by
 obtain⟨a,rfl⟩:∃a,l=[a]:=List.length_eq_one_iff.1 h.len;refine⟨h.inl a qe,fun v0 L=>?_⟩;have e:=h.val v0 L;have ao:=h.lt v0 L
 have:cu v0=0∨cu v0=1:=by omega
 rcases this with aS | aS <;> rw[aS] at e ⊢ <;> simpa[cp,aP] using e
theorem SO {first:Nat} (ah:1<=first) {N:aR} (lW:∀z,z∈N.mems->1<=z.width) {wl:List (List Int)} {am:List Bool->List Nat} (hL:List jz) (hs:List Z) (h:bI first hs) (ms:List (List (List Int))) (a9:List Bool->List (List Nat)) (ae:xh first hs N ms a9)
  (ao:∀z,z∈hL->BM first hs N wl am z) :
  fU first hs (qF first wl hL hs ms).1 (O2 N hL)∧xh first (qF first wl hL hs ms).1 N (qF first wl hL hs ms).2 (fun v0=>hL.foldl (t5 (am v0)) (a9 v0)):=by
 induction hL generalizing hs ms a9 with
 | nil=>exact⟨fU.refl h _,ae⟩
 | cons z r aA =>
  have ej:=ao z qe;have X:N.mems[z.mem.toNat]?=some (N.mems[z.mem.toNat]' ej.mem):=ct ej.mem;have yE:(N.mems[z.mem.toNat]' ej.mem)∈N.mems:=List.getElem_mem _;generalize N.mems[z.mem.toNat]' ej.mem=y at X yE;have Fq:qy N z.mem=y.width:=by unfold qy;rw[X];rfl
  have amu:EJ N z=y.width.toNat*(ms.getD z.mem.toNat []).length:=by
   unfold EJ;rw[Fq,X]
   have:=(ae.each _ y X).1
   show y.width.toNat*y.words.toNat=_;rw[<-this];rfl
  obtain⟨m1,m2,nU,IG⟩:=ae.each _ y X;obtain⟨w,aw,gV⟩:=ej.addr;have mY:=ej.data;rw[Fq] at mY;obtain⟨b1,b2⟩:=abO ej.when_;have aF:=lW y yE;have N7:1<=y.width.toNat:=by omega
  have F:=awK ah h m2 (fun x J=>(nU x J).1) N7 aw (fun x J=>(nU x J).2) gV mY b1 b2 IG;rw[<-amu] at F;have apk:qF first wl (z::r) hs ms=qF first wl r (CI first hs (ms.getD z.mem.toNat []) (wl.getD z.addr.toNat []) ((wl.getD z.when_.toNat []).getD 0 0) (wl.getD z.data.toNat [])).1 (ms.set z.mem.toNat (CI first hs (ms.getD z.mem.toNat []) (wl.getD z.addr.toNat []) ((wl.getD z.when_.toNat []).getD 0 0) (wl.getD z.data.toNat [])).2):=rfl;rw[apk];generalize CI first hs (ms.getD z.mem.toNat []) (wl.getD z.addr.toNat []) ((wl.getD z.when_.toNat []).getD 0 0) (wl.getD z.data.toNat [])=q at F ⊢;obtain⟨hJ,hS⟩:=uq ah;have Rn:q.2.length=(ms.getD z.mem.toNat []).length:=by
   have bp:=congrArg List.length (F.val hJ hS);have aS:=congrArg List.length (IG hJ hS);simp only[List.length_map] at bp aS;rw[bp,aS];split <;> simp
  have aoK:xh first q.1 N (ms.set z.mem.toNat q.2) (fun v0=>t5 (am v0) (a9 v0) z):=by
   refine⟨by simp[ae.len],fun v0 L=>by rw[awz];exact ae.ml v0 L,fun k x J=>?_⟩;by_cases e:z.mem.toNat=k
   ·subst e
    have:x=y:=by rw[X] at J;exact(Option.some.inj J).symm
    subst this;rw[am1 (by rw[ae.len];exact ej.mem),Rn];refine⟨m1,m2,fun en sT=>⟨F.inl en sT,?_⟩,fun v0 L=>?_⟩
    ·have bM:cp hJ q.1 en∈q.2.map (cp hJ q.1):=List.mem_map_of_mem sT;rw[F.val hJ hS] at bM;obtain⟨n,-,lg⟩:=i6.1 bM
     have:=congrArg List.length lg
     rw[rT,oj] at this;exact this.symm
    ·rw[F.val v0 L];have hl:(a9 v0)[z.mem.toNat]?=some ((a9 v0)[z.mem.toNat]'(by rw[ae.ml v0 L];exact ej.mem)):=ct _;generalize (a9 v0)[z.mem.toNat]'(by rw[ae.ml v0 L];exact ej.mem)=l at hl;have aB:z.mem.toNat<(a9 v0).length:=by rw[ae.ml v0 L];exact ej.mem
     unfold t5;rw[hl];simp only[Option.getD_some,decide_eq_true_eq];by_cases ar:gR (am v0) z.when_≠0∧gR (am v0) z.addr<l.length
     ·rw[if_pos ar,if_pos ar,t6 aB];rfl
     ·rw[if_neg ar,if_neg ar,hl];rfl
   ·rw[getD_set_ne e];obtain⟨n1,mv,og,IJ⟩:=ae.each k x J;refine⟨n1,mv,fun en sT=>⟨F.gd.allIn (og en sT).1,(og en sT).2⟩,fun v0 L=>?_⟩;have l8:(t5 (am v0) (a9 v0) z)[k]?=(a9 v0)[k]?:=by
     unfold t5;split
     ·split
      ·rw[ve e]
      ·rfl
     ·rfl
    rw[l8,<-IJ v0 L];exact o8 (fun en sT=>F.gd.vls (og en sT).1 L)
  have O:=aA q.1 F.gd.ok (ms.set z.mem.toNat q.2) (fun v0=>t5 (am v0) (a9 v0) z) aoK (fun x J=>(ao x (qd _ J)).to F.gd);exact⟨F.gd.trans O.1,O.2⟩
theorem GC {N:aR} {i x:Int} (h:j7 N i x=true):0<=i∧i<N.nodes.length∧f2 N i=x:=by
 obtain⟨aI,d,U,e⟩:=jN h
 have:=(cr.1 U).1
 refine⟨aI,by omega,?_⟩;unfold f2;rw[U];exact e
theorem yN {N:aR} (h:er N=true):(∀z,z∈N.mems->1<=z.width∧z.width<=32)∧(∀r,r∈N.regs->vJ N r=true)∧(∀z,z∈N.wrs->o6 N z=true)∧∀o,o∈N.outs->0<=o∧o<N.nodes.length:=by
 unfold er at h;simp only[Bool.and_eq_true] at h;refine⟨fun z ao=>?_,k9.1 h.1.1.2,k9.1 h.1.2,fun o aY=>jN (k9.1 h.2 o aY)⟩
 have:=k9.1 h.1.1.1.1.2 z ao
 unfold xL at this;simp only[Bool.and_eq_true] at this;simpa[cL] using this.1
theorem ah3 {N:aR} (h:er N=true) {first:Nat} {hs aed:List Z} {need:List Bool} {gI G:List Bool->List Nat} {a9:List Bool->List (List Nat)} {n:Nat} {wl:List (List Int)} (gB:lR N need)
  (a8:PV first aed N need gI G a9 N.nodes.length n (hs,wl)) {z:jz} (ao:z∈N.wrs):BM first hs N wl (fun v0=>ky N (gI v0) (G v0) (a9 v0) N.nodes.length) z:=by
 have F:=(yN h).2.2.1 z ao;unfold o6 at F;simp only[Bool.and_eq_true] at F;obtain⟨⟨O,aW⟩,cw⟩:=F;have O:=jN O;obtain⟨a1,a2,a3⟩:=GC aW;obtain⟨d1,d2,qP⟩:=GC cw;obtain⟨n1,mv,og⟩:=gB.wrs z ao;refine⟨by omega,?_,⟨(f2 N z.addr).toNat,?_,a8.num z.addr O.2.2.1 O.2.2.2 mv⟩,?_⟩
 ·have:=a8.num z.when_ a1 a2 n1
  rw[a3] at this;exact this
 ·have:=(Jm h (a:=z.addr) (by omega)).2
  omega
 ·have:=a8.num z.data d1 d2 og
  rw[qP] at this;exact this
theorem Up {Y:Nat} {w:World} {S:dp} {first:Nat} (ah:1<=first) {hs:List Z} (h:bI first hs) {ins regs:List (List Int)} {mems:List (List (List Int))} {N:aR} {need:List Bool} {gI G:List Bool->List Nat} {a9:List Bool->List (List Nat)}
  (aO:eM Y w S N) (aG:er N=true) (gB:lR N need) (jR:E9 first hs N ins regs mems gI G a9) (kV:xh first hs N mems a9) (ik:∀v0,iq first v0->vq N (G v0) (a9 v0))
  (s:List Z×List (List Int)) (bo:s=AL first ins regs mems N need hs N.nodes.length) (q:List Z×List (List (List Int))) (amp:q=qF first s.2 N.wrs s.1 mems) :
  fU first hs q.1 (Bq N need N.nodes.length+O2 N N.wrs) ∧
  (∀o,o∈N.outs->eD first q.1 (s.2.getD o.toNat []) (f2 N o).toNat (fun v0=>gR (nD N (gI v0) ⟨G v0,a9 v0⟩) o)) ∧
  (∀r,r∈N.regs->eD first q.1 (s.2.getD r.next.toNat []) r.width.toNat (fun v0=>gR (nD N (gI v0) ⟨G v0,a9 v0⟩) r.next)) ∧
  xh first q.1 N q.2 (fun v0=>(v3 N (gI v0) ⟨G v0,a9 v0⟩).m):=by
 have a8:=asf ah h aO aG gB jR ik;rw[<-bo] at a8;have HX:xh first s.1 N mems a9:=⟨kV.len,kV.ml,fun k z ao=>by
  obtain⟨n1,mv,og,IJ⟩:=kV.each k z ao;refine⟨n1,mv,fun x J=>⟨a8.gd.allIn (og x J).1,(og x J).2⟩,fun v0 L=>?_⟩;rw[<-IJ v0 L];exact o8 (fun x J=>a8.gd.vls (og x J).1 L)⟩
 have av:=SO ah (fun z ao=>((yN aG).1 z ao).1) N.wrs s.1 a8.gd.ok mems a9 HX (fun z ao=>ah3 aG gB a8 ao);rw[<-amp] at av;refine⟨a8.gd.trans av.1,fun o aY=>?_,fun r ak=>?_,av.2⟩
 ·obtain⟨iG,hT⟩:=(yN aG).2.2.2 o aY;exact(a8.num o iG hT (gB.outs o aY)).to av.1
 ·obtain⟨a1,a2,a3⟩:=GC ((yN aG).2.1 r ak)
  have:=(a8.num r.next a1 a2 (gB.regs r ak)).to av.1
  rw[a3] at this;exact this
theorem ah5 (first:Nat) (wl:List (List Int)) (hL rs:List jz) (hs:List Z) (ms:List (List (List Int))):qF first wl (hL++rs) hs ms=qF first wl rs (qF first wl hL hs ms).1 (qF first wl hL hs ms).2:=by
 induction hL generalizing hs ms with
 | nil=>rfl
 | cons z r aA=>simp only[List.cons_append,qF,aA]
theorem ah4 (first:Nat) (data kD lI:List Int) (w1 w2:List (List Int)) (hs:List Z) (h:kD.length=w1.length):qE first data hs (kD++lI) (w1++w2)=((qE first data (qE first data hs kD w1).1 lI w2).1,(qE first data hs kD w1).2++(qE first data (qE first data hs kD w1).1 lI w2).2):=by
 induction kD generalizing w1 hs with
 | nil =>
  obtain rfl:w1=[]:=yc (by simpa using h.symm);simp[qE]
 | cons a l aA =>
  cases w1 with
  | nil=>simp at h
  | cons b w=>simp only[List.cons_append,qE,aA w _ (by simpa using h)]
theorem awI (first:Nat) (data l:List Int) (ws:List (List Int)) (hs:List Z) (h:l.length=ws.length):(qE first data hs l ws).2.length=ws.length:=by
 induction l generalizing ws hs with
 | nil =>
  obtain rfl:ws=[]:=yc (by simpa using h.symm)
  rfl
 | cons a l aA =>
  cases ws with
  | nil=>simp at h
  | cons b w=>simp only[qE,List.length_cons,aA w _ (by simpa using h)]
def kN (first:Nat) (data lines:List Int) (hs:List Z) (ws:List (List Int)) (k:Nat):List Z×List (List Int):=qE first data hs (lines.take k) (ws.take k)
theorem YF (first:Nat) (data lines:List Int) (hs:List Z) (ws:List (List Int)):kN first data lines hs ws 0=(hs,[]):=by unfold kN;simp[qE]
theorem awy {first:Nat} {data lines:List Int} {hs:List Z} {ws:List (List Int)} {k:Nat} {q:Int} {x:List Int} (aJ:lines[k]?=some q) (J:ws[k]?=some x) :
  kN first data lines hs ws (k+1)=((n8 first (kN first data lines hs ws k).1 q data x).1,(kN first data lines hs ws k).2++[(n8 first (kN first data lines hs ws k).1 q data x).2]):=by
 have F:=(cr.1 aJ).1;have O:=(cr.1 J).1;unfold kN;rw[gM _ k _ aJ,gM _ k _ J,ah4 _ _ _ _ _ _ _ (by rw[jx,jx];omega)];simp[qE]
theorem ah2 {first:Nat} {data lines:List Int} {hs:List Z} {ws:List (List Int)} {k:Nat} (F:lines.length<=k) (O:ws.length<=k):kN first data lines hs ws k=qE first data hs lines ws:=by
 unfold kN;rw[fQ F,fQ O]
theorem awx {first:Nat} {data lines:List Int} {hs:List Z} {ws:List (List Int)} {k:Nat} (h:lines.length=ws.length) (X:k<=ws.length):(kN first data lines hs ws k).2.length=k:=by
 unfold kN;rw[awI _ _ _ _ _ (by rw[jx,jx];omega),jx];omega
theorem YE {first:Nat} (ah:1<=first) {data lines:List Int} {hs:List Z} (h:bI first hs) {ws:List (List Int)} (U:bt first hs data) (hl:bt first hs lines) (aw:∀x,x∈ws->bt first hs x) (aU:∀x,x∈ws->x.length=data.length) (ks:lines.length=ws.length) (k:Nat) :
  (∃n,fU first hs (kN first data lines hs ws k).1 n)∧(kN first data lines hs ws k).1.length<=(qE first data hs lines ws).1.length:=by
 have F:=YG ah data (lines.take k) (ws.take k) hs h U (fun x J=>hl x (su J)) (fun x J=>aw x (su J)) (fun x J=>aU x (su J));refine⟨⟨_,F.gd⟩,?_⟩;have O:=YG ah data (lines.drop k) (ws.drop k) (kN first data lines hs ws k).1 F.gd.ok (F.gd.allIn U) (F.gd.allIn (fun x J=>hl x (List.mem_of_mem_drop J))) (fun x J=>F.gd.allIn (aw x (List.mem_of_mem_drop J))) (fun x J=>aU x (List.mem_of_mem_drop J));have e:=ah4 first data (lines.take k) (lines.drop k) (ws.take k) (ws.drop k) hs (by rw[jx,jx];omega);rw[List.take_append_drop,List.take_append_drop] at e;rw[e];exact O.gd.len.1
def lM (first:Nat) (wl:List (List Int)) (hL:List jz) (hs:List Z) (ms:List (List (List Int))) (k:Nat):List Z×List (List (List Int)):=qF first wl (hL.take k) hs ms
def Gg (wl:List (List Int)) (z:jz):Int:=(wl.getD z.when_.toNat []).getD 0 0
theorem ah6 {first:Nat} {wl:List (List Int)} {hL:List jz} {hs:List Z} {ms:List (List (List Int))} {k:Nat} {z:jz} (ao:hL[k]?=some z) :
  lM first wl hL hs ms (k+1)=((CI first (lM first wl hL hs ms k).1 ((lM first wl hL hs ms k).2.getD z.mem.toNat []) (wl.getD z.addr.toNat []) (Gg wl z) (wl.getD z.data.toNat [])).1,(lM first wl hL hs ms k).2.set z.mem.toNat (CI first (lM first wl hL hs ms k).1 ((lM first wl hL hs ms k).2.getD z.mem.toNat []) (wl.getD z.addr.toNat []) (Gg wl z) (wl.getD z.data.toNat [])).2):=by
 unfold lM;rw[gM _ k _ ao,ah5]
 rfl
theorem ah7 {first:Nat} (ah:1<=first) {N:aR} (lW:∀z,z∈N.mems->1<=z.width) {wl:List (List Int)} {am:List Bool->List Nat} {hL:List jz} {hs:List Z} (h:bI first hs) {ms:List (List (List Int))} {a9:List Bool->List (List Nat)} (ae:xh first hs N ms a9) (ao:∀z,z∈hL->BM first hs N wl am z) (k:Nat) :
  (∃n,fU first hs (lM first wl hL hs ms k).1 n)∧(∃aa8,xh first (lM first wl hL hs ms k).1 N (lM first wl hL hs ms k).2 aa8)∧(lM first wl hL hs ms k).1.length<=(qF first wl hL hs ms).1.length:=by
 obtain⟨F,O⟩:=SO ah lW (hL.take k) hs h ms a9 ae (fun z J=>ao z (su J));refine⟨⟨_,F⟩,⟨_,O⟩,?_⟩;obtain⟨aW,-⟩:=SO ah lW (hL.drop k) (lM first wl hL hs ms k).1 F.ok (lM first wl hL hs ms k).2 _ O (fun z J=>(ao z (List.mem_of_mem_drop J)).to F);have e:=ah5 first wl (hL.take k) (hL.drop k) hs ms;rw[List.take_append_drop] at e;rw[e];exact aW.len.1
theorem Xi (n:Nat):(madeCells (Value.slice none 0 0).cells (n*1)).toList=List.replicate n (.slice none 0 0):=by
 rw[Nat.mul_one];apply List.ext_getElem?;intro i;by_cases h:i<n
 ·simp[madeCells,Value.cells,h,Nat.mod_one]
 ·simp[madeCells,Value.cells,h]
theorem ql.vals {Ps:Nat->Prop} {w:World} {b o:Nat} {ws:List (List Int)} (h:∀(i:Nat) (l:List Int),ws[i]?=some l->∃x,w.cell? ⟨b,o+i,none⟩=some x∧cv Ps w x l) :
  ∃kM:List Value,kM.length=ws.length∧(∀(i:Nat) (x:Value),kM[i]?=some x->w.cell? ⟨b,o+i,none⟩=some x)∧(∀u,u∈kM->z3 u)∧∀(i:Nat) (l:List Int),ws[i]?=some l->∃x,kM[i]?=some x∧cv Ps w x l:=by
 let f:Nat->Value:=fun i=>(w.cell? ⟨b,o+i,none⟩).getD (.slice none 0 0)
 have ah:∀(i:Nat),i<ws.length->∃x l,ws[i]?=some l∧w.cell? ⟨b,o+i,none⟩=some x∧cv Ps w x l∧f i=x:=fun i hi=>by
  obtain⟨l,hl⟩:=bS hi;obtain⟨x,J,aw⟩:=h i l hl;exact⟨x,l,hl,J,aw,by show(w.cell? _).getD _=x;rw[J];rfl⟩
 refine⟨(List.range ws.length).map f,by simp,fun i x J=>?_,fun u bb=>?_,fun i l hl=>?_⟩
 ·rw[fT] at J;have hi:i<ws.length:=by
   rcases Nat.lt_or_ge i ws.length with kZ | kZ
   ·exact kZ
   ·rw[oN (by simpa using kZ)] at J;cases J
  rw[List.getElem?_range hi] at J;obtain⟨y,l,-,aF,-,Ns⟩:=ah i hi;cases J;rw[Ns];exact aF
 ·obtain⟨i,hi,rfl⟩:=i6.1 bb;obtain⟨y,l,-,-,aw,Ns⟩:=ah i (by simpa using hi);rw[Ns];exact aw.isSl
 ·have hi:=(cr.1 hl).1;obtain⟨y,pw,hC,-,aw,Ns⟩:=ah i hi;rw[hl] at hC;cases hC;exact⟨y,by rw[fT,List.getElem?_range hi,<-Ns];rfl,aw⟩
section
variable {C:Nat} {az w B v:World} {E M first:Nat} {hs bA:List Z} {Ps an lB:Nat->Prop} {cF n:Nat} {bo:List kO} {ms:List (List (List Int))}
theorem i9.add (h:i9 C az w E M first hs Ps an cF n bo ms) (D:V w v) {g:Nat} (af:w.heap.size<=g) (KD:g<v.heap.size):i9 C az v E M first hs Ps (cK an g) cF n bo ms:=by
 have O:=h.below D;have rG:∀b,pA an cF bo b->b<w.heap.size:=fun b D=>(h.gt.ps b D).1
 refine⟨fun b D=> .inl (h.sub b D),(h.gt.add D af KD).less (fun b D=>?_),O.kp,O.row,O.sl,O.len,fun k e ws ay aw=>(O.each k e ws ay aw).more lK,⟨fun e ay=>⟨fun aJ=>?_,(h.ap.1 e ay).2⟩,fun aJ=>?_,h.ap.2.2⟩,O.lt⟩
 ·rcases D with (D | D) | D
  ·exact .inl (.inl D)
  ·exact .inr D
  ·exact .inl (.inr D)
 ·rcases aJ with aJ | aJ
  ·exact(h.ap.1 e ay).1 aJ
  ·have:=rG e.b (.inr (.inr ⟨e,ay,rfl⟩));omega
 ·rcases aJ with aJ | aJ
  ·exact h.ap.2.1 aJ
  ·have:=rG cF (.inr (.inl rfl));omega
theorem i9.off_of (h:i9 C az w E M first hs Ps an cF n bo ms) (rH:∀b,pA an cF bo b->lB b):∀b,an b->off lB cF bo b:=fun b D=>⟨rH b (.inl D),fun e=>h.ap.2.1 (e▸D),fun e ay aS=>(h.ap.1 e ay).1 (aS▸D)⟩
theorem i9.stored (h:i9 C az w E M first hs Ps an cF n bo ms) {j i:Nat} {e:kO} {ws:List (List Int)} {x:Value} (ay:bo[j]?=some e) (aw:ms[j]?=some ws) (L:w.setCell ⟨e.b,i,none⟩ x=v):∀b,an b->v.heap[b]?=w.heap[b]?:=fun b D=>by
 obtain⟨kM,F,-⟩:=(h.each j e ws ay aw).row;rw[<-L];exact(F.stored i x).2.block b (h.gt.ps b (.inl D)).1 (fun aS=>(h.ap.1 e (bn ay)).1 (by cases aS;exact D))
theorem i9.at_ (h:i9 C az w E M first hs Ps an cF n bo ms) {k:Nat} {e:kO} (ay:bo[k]?=some e):w.cell? ⟨cF,k,none⟩=some e.val∧w.frozen? ⟨cF,k,none⟩=false:=by
 refine K7 h.row ?_;rw[mS (by have:=(cr.1 ay).1;simpa using this),fT,ay];rfl
theorem i9.next_ (h:i9 C az w E M first hs Ps an cF n bo ms) (X:bo.length<n):w.cell? ⟨cF,bo.length,none⟩=some (.slice none 0 0)∧w.frozen? ⟨cF,bo.length,none⟩=false:=by
 refine K7 h.row ?_;rw[lu (by simp),lb,Nat.sub_self,List.getElem?_replicate,if_pos (by omega)]
theorem i9.done (h:i9 C az w E M first hs Ps an cF n bo ms) (ag:bo.length=n):(∀b,Ps b->pA an cF bo b)∧bZ C w E M first hs (pA an cF bo)∧f3 C Ps az w∧ro (pA an cF bo) w (.slice (some ⟨cF,0,none⟩) n n) ms:=by
 refine⟨fun b D=> .inl (h.sub b D),h.gt,h.kp,some ⟨cF,0,none⟩,n,by rw[<-h.len.1,ag],fun i ws hi=>?_⟩;obtain⟨e,ay⟩:=bS (l:=bo) (k:=i) (by have:=(cr.1 hi).1;have:=h.len.1;omega);have l9:=h.each i e ws ay hi;refine⟨cF,0,e.val,rfl,.inr (.inl rfl),by rw[Nat.zero_add];exact(h.at_ ay).1,e.b,0,e.cap,by unfold kO.val;rw[l9.len],?_,.inr (.inr ⟨e,bn ay,rfl⟩),fun k l hl=>?_⟩
 ·obtain⟨kM,F,-⟩:=l9.row;rw[l9.len];exact R5 F
 ·obtain⟨x,J,aw,-⟩:=l9.cell hl;exact⟨x,by rw[Nat.zero_add];exact J,aw.more (fun b D=> .inl D)⟩
end
theorem aqM {first:Nat} (ah:1<=first) {words:Nat} (aw:1<=words) {e9:List Int} {h9:Int} {hs:List Z} (h:bI first hs) (mZ:bt first hs e9) (kf:bN first hs h9):∃nl,fU first hs (nT first hs words e9 h9).1 nl∧bt first (nT first hs words e9 h9).1 (nT first hs words e9 h9).2∧(nT first hs words e9 h9).2.length=words:=by
 have:=RP ah words aw e9 h9 hs h mZ kf (fun v0=>vc (cp v0 hs e9)) (fun v0 _=>SF (cp v0 hs e9) e9.length (oj _ _ _))
 refine⟨_,this.gd,this.inl,?_⟩;obtain⟨v0,L⟩:=uq ah;rw[this.len L];simp[o2]
structure abv (first:Nat) (X:List Z) (ms:List (List (List Int))) (mem:Nat) (hK:List (List Int)) (e9 da:List Int) (h9:Int) (ba:List Z×List Int) (T:Nat):Prop where
 at_:ms[mem]?=some hK
 w1:1<=hK.length∧hK.length<=256
 adI:bt first X e9∧e9.length<=64
 onI:bN first X h9
 hl:ba=nT first X hK.length e9 h9
 lok:bI first ba.1
 li:bt first ba.1 ba.2∧ba.2.length=hK.length
 daI:bt first ba.1 da∧da.length<=32
 wi:∀x,x∈hK->bt first ba.1 x∧x.length=da.length
 le1:ba.1.length<=T
 le2:∀k,(kN first da ba.2 ba.1 hK k).1.length<=T
theorem Kk {α:Type} {l:List (List α)} {i:Nat} (h:l.getD i []≠[]):l[i]?=some (l.getD i []):=by
 rw[iH] at h ⊢;cases e:l[i]? with
 | none=>rw[e] at h;exact absurd rfl h
 | some x=>rfl
theorem awG {first:Nat} (ah:1<=first) {N:aR} (aG:er N=true) {wl:List (List Int)} {am:List Bool->List Nat} {hL:List jz} {hs:List Z} (h:bI first hs) {ms:List (List (List Int))} {a9:List Bool->List (List Nat)} (ae:xh first hs N ms a9) (ao:∀z,z∈hL->BM first hs N wl am z) {k:Nat} {z:jz} (Cg:hL[k]?=some z) :
  abv first (lM first wl hL hs ms k).1 (lM first wl hL hs ms k).2 z.mem.toNat ((lM first wl hL hs ms k).2.getD z.mem.toNat []) (wl.getD z.addr.toNat []) (wl.getD z.data.toNat []) (Gg wl z) (nT first (lM first wl hL hs ms k).1 ((lM first wl hL hs ms k).2.getD z.mem.toNat []).length (wl.getD z.addr.toNat []) (Gg wl z)) (qF first wl hL hs ms).1.length:=by
 have lW:∀z,z∈N.mems->1<=z.width:=fun z ao=>((yN aG).1 z ao).1
 obtain⟨⟨n0,kT⟩,⟨aa8,acN⟩,-⟩:=ah7 ah lW h ae ao k;obtain⟨-,-,NF⟩:=ah7 ah lW h ae ao (k+1);rw[ah6 Cg] at NF;have ej:=(ao z (bn Cg)).to kT;generalize lM first wl hL hs ms k=s at *;obtain⟨y,aF⟩:=bS ej.mem;obtain⟨m1,m2,nU,-⟩:=acN.each _ y aF;obtain⟨⟨qa,mB⟩,qc,GJ⟩:=(q1 aG).mem y (bn aF);obtain⟨w,aw,gV⟩:=ej.addr;obtain⟨b1,-⟩:=abO ej.when_;have mY:=ej.data;have Fq:qy N z.mem=y.width:=by unfold qy;rw[aF];rfl
 rw[Fq] at mY;have yE:z.mem.toNat<s.2.length:=by rw[acN.len];exact ej.mem
 obtain⟨nl,Fw,F5,RO⟩:=aqM ah m2 kT.ok gV.inl b1;unfold CI at NF;have amw:s.2[z.mem.toNat]?=some (s.2.getD z.mem.toNat []):=by rw[iH,ct yE];rfl
 unfold Gg at *;obtain⟨ba,jR⟩:=cf (nT first s.1 (s.2.getD z.mem.toNat []).length (wl.getD z.addr.toNat []) ((wl.getD z.when_.toNat []).getD 0 0));rw[<-jR] at Fw F5 RO NF ⊢;have Iu:∀x,x∈s.2.getD z.mem.toNat []->bt first ba.1 x∧x.length=(wl.getD z.data.toNat []).length:=fun x J=>⟨Fw.allIn (nU x J).1,by rw[(nU x J).2,mY.len]⟩
 refine⟨amw,⟨m2,by omega⟩,⟨gV.inl,by rw[gV.len];omega⟩,b1,?_,Fw.ok,⟨F5,RO⟩,⟨Fw.allIn mY.inl,by rw[mY.len];omega⟩,Iu,?_,fun j=>?_⟩
 ·exact jR
 ·have:=(YE ah (data:=wl.getD z.data.toNat []) (lines:=ba.2) Fw.ok (Fw.allIn mY.inl) F5 (fun x J=>(Iu x J).1) (fun x J=>(Iu x J).2) RO 0).2
  rw[YF] at this;exact bL this NF
 ·exact bL (YE ah (data:=wl.getD z.data.toNat []) (lines:=ba.2) Fw.ok (Fw.allIn mY.inl) F5 (fun x J=>(Iu x J).1) (fun x J=>(Iu x J).2) RO j).2 NF
end Go.Proofs.YtcbcenfjigcfkaaGreatDoor
