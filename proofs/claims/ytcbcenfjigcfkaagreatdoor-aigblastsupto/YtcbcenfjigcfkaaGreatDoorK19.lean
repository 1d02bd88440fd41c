import Derived.Test.YtcbcenfjigcfkaaGreatDoorK18
set_option maxRecDepth 100000
set_option maxHeartbeats 40000000
namespace Go.Proofs.YtcbcenfjigcfkaaGreatDoor
open Go.RowKit
theorem atl (w:World) (width:Nat) (bT:1<=width) (gp:width<=32) (num:Nat) (bJ cP n es:Nat) (ee:Option Addr) (nw ca:Nat) (x:Nat) (J:x<18446744073709551616) (ag:(0:Int)<(n:Int)) (c0:w.cell? ⟨bJ,cP,none⟩=some (.int .u64 (x:Int))) :
  Calls Tryz.prog 65 #[.int .i64 11,.int .i64 width,.int .u64 num,.slice (some ⟨bJ,cP,none⟩) n es,.slice ee nw ca] w fun e B=>e = .returned (.int .u64 ((xM 64 x:Nat):Int))∧∃q,B=w.drewN q:=by
 have hP:Hid (∀w,Calls Tryz.prog 19 #[.int .i64 (width:Int)] w fun e B=>e = .returned (.int .u64 (i3 (width:Int)))∧B=w):=fun w=>oe (width:Int) (by simp[cL];omega) w
 obtain⟨EG,jp⟩:∃EG,Hid (xM 64 x=EG):=⟨_,rfl⟩
 rw[jp.out];go_enter Tryz.func65,Tryz.ntmps65
 go_wp2_with (go_at_call 19;refine(hP _).mono ?_;rintro e B ⟨rfl,aV⟩;subst B)
 go_loopw [14,15] (fun s i B=>∃(f v c:Nat),f<=64∧v<2^f∧v<18446744073709551616∧c<2∧s = .int .u64 (c:Int)∧i = .int .u64 (v:Int)∧Hid (c ^^^ xM f v=EG)∧B=w) (fun _ i _=>(intOf i).toNat)
 case atStart=>exact⟨64,x,0,aL _,J,J,by decide,rfl,rfl,by show _=_;rw[<-jp.out];simp,rfl⟩
 case round =>
  obtain⟨f,v,c,ah,L,apu,ar,rfl,rfl,gC,rfl⟩:=hrel;by_cases ao:v=0
  ·subst ao;have e:c=EG:=by rw[<-gC.out,afw];simp
   subst e;clear gC jp;go_wp2;go_ret
   exact⟨rfl,0,rfl⟩
  ·have azP:(v:Int)≠0:=by omega
   obtain⟨f,rfl⟩:∃g,f=g+1:=by
    cases f with
    | zero=>simp at L;exact absurd L ao
    | succ g=>exact⟨g,rfl⟩
   have bp:bits BinOp.and IntKind.u64 (v:Int) 1=((v%2:Nat):Int):=by
    have:=Uj v 1 apu (by decide)
    rw[Nat.and_one_is_mod] at this;exact this
   have aS:bits BinOp.xor IntKind.u64 (c:Int) ((v:Int)%2)=((c ^^^ v%2:Nat):Int):=by
    rw[show(v:Int)%2=((v%2:Nat):Int) by omega];exact YI _ _ (by omega) (by omega)
   have bP:Hid ((c ^^^ v%2) ^^^ xM f (v / 2)=EG):=by
    show _=_;rw[<-gC.out,Nat.xor_assoc];rfl
   have il:v / 2<2^f:=by rw[Nat.pow_succ] at L;omega
   have lU:c ^^^ v%2<2:=Nat.xor_lt_two_pow (n:=1) ar (by omega);clear gC jp;go_wp2;go_roundw
   case measure=>simp[intOf];omega
   exact⟨f,v / 2,c ^^^ v%2,by omega,il,by omega,lU,by simp,by simp,bP.out,trivial⟩
def g9 (ps:List (Nat×Nat)) (k:Nat):Nat:=(ps[k]?.map (·.1)).getD 0
def tD (ps:List (Nat×Nat)) (k:Nat):Nat:=(ps[k]?.map (·.2)).getD 0
def hh (kind:Int) (width num:Nat) (ps:List (Nat×Nat)):Nat :=
 if kind=1 then num
 else if kind=5 then g9 ps 0 / 2^num%2^width
 else if kind=6 then g9 ps 0%2^width
 else if kind=7 then um ps
 else if kind=8 then (18446744073709551615 ^^^ g9 ps 0)%2^width
 else if kind=9 then n6 (decide (g9 ps 0=2^tD ps 0 - 1))
 else if kind=10 then n6 (decide (g9 ps 0≠0))
 else if kind=11 then xM 64 (g9 ps 0)
 else if kind=22 then (if g9 ps 0≠0 then g9 ps 1 else g9 ps 2)
 else abU kind (g9 ps 0) (g9 ps 1)%2^width
def m9 (ps:List (Nat×Nat)):List Int:=ps.map fun p=>(p.2:Int)
def avm (p:Nat×Nat):List Value:=[.int .u64 (p.1:Int)]
def SJ (p:Nat×Nat):List Value:=[.int .i64 (p.2:Int)]
structure Ht (kind:Int) (width num:Nat) (ps:List (Nat×Nat)):Prop where
 w1:1<=width
 w2:width<=32
 n64:num<18446744073709551616
 rng:∀p,p∈ps->p.1<2^p.2∧1<=p.2∧p.2<=32
 want:0<=ew kind->(ps.length:Int)=ew kind
 len:ps.length<cd
 ne:kind=7->ps≠[]
 kinds:kind=1∨kind=5∨kind=6∨kind=7∨kind=8∨kind=9∨kind=10∨kind=11∨(12<=kind∧kind<=22)
 fit:hX kind width num (m9 ps)=true
theorem Ht.p {kind:Int} {width num:Nat} {ps:List (Nat×Nat)} (h:Ht kind width num ps) {k:Nat} (X:k<ps.length):ps[k]?=some (g9 ps k,tD ps k)∧g9 ps k<2^tD ps k∧1<=tD ps k∧tD ps k<=32∧g9 ps k<4294967296:=by
 have e:ps[k]?=some (g9 ps k,tD ps k):=by simp[g9,tD,List.getElem?_eq_getElem X]
 have:=h.rng _ (bn e)
 exact⟨e,this.1,this.2.1,this.2.2,bk this.1 (q7 (n:=2) (by decide) this.2.2)⟩
theorem at_ws {ps:List (Nat×Nat)} {k:Nat} (X:k<ps.length):bi (m9 ps) k=(tD ps k:Int):=by
 simp[bi,m9,tD,List.getElem?_eq_getElem X]
theorem agt (ps:List (Nat×Nat)):(m9 ps).sum=(((ps.map (·.2)).sum:Nat):Int):=by
 induction ps with
 | nil=>rfl
 | cons p r aA=>simp only[m9,List.map_cons,List.sum_cons] at *;rw[aA];push_cast;rfl
theorem J9 {Y:Nat} {w:World} {a:Option Addr} {ps:List (Nat×Nat)} {f:Nat×Nat->List Value} {g:Nat×Nat->Value} (ah:∀p,f p=[g p]) (h:cm Y w a 1 (ps.map f)) (cb:0<ps.length) :
  ∃b o,a=some ⟨b,o,none⟩∧∀(i:Nat) (p:Nat×Nat),ps[i]?=some p->w.cell? ⟨b,o+i,none⟩=some (g p):=by
 obtain⟨b,o,ad,-,ar⟩:=h (by intro e;have:ps=[]:=List.map_eq_nil_iff.1 e;rw[this] at cb;simp at cb);refine⟨b,o,ad,fun i p aE=>?_⟩
 have:=ar i (f p) (by simp[aE]) 0 (g p) (by rw[ah];rfl)
 simpa using this
theorem UP {kind:Int} {width num:Nat} {ps:List (Nat×Nat)} (h:Ht kind width num ps) (X:12<=kind∧kind<=17) (hl:ps.length=2):tD ps 0=width∧tD ps 1=width:=by
 have ah:=h.fit;unfold hX at ah;rw[if_neg (by omega),if_neg (by omega),if_neg (by omega),if_neg (by omega),if_pos X,s5,at_ws (by omega),at_ws (by omega)] at ah;omega
theorem Um (b:Bool):n6 b<2^1:=by cases b <;> decide
theorem auE (x y width:Nat) (aF:width<=y) (aw:width<=32):(x*2^(min y 64))%18446744073709551616%2^width=0:=by
 have F:2^width ∣ 18446744073709551616:=Nat.pow_dvd_pow (m:=width) (n:=64) 2 (by omega);rw[Nat.mod_mod_of_dvd _ F];exact Nat.mod_eq_zero_of_dvd (Nat.dvd_trans (Nat.pow_dvd_pow 2 (show width<=min y 64 by omega)) (Nat.dvd_mul_left _ _))
theorem afE (Y:Nat) (w:World) (kind:Int) (width num:Nat) (ps:List (Nat×Nat)) (h:Ht kind width num ps) (aa ee:Option Addr) (es ca:Nat) (ra:cm Y w aa 1 (ps.map avm)) (af8:cm Y w ee 1 (ps.map SJ)) :
  Calls Tryz.prog 65 #[.int .i64 kind,.int .i64 width,.int .u64 num,.slice aa ps.length es,.slice ee ps.length ca] w fun e B=>e = .returned (.int .u64 ((hh kind width num ps:Nat):Int))∧∃q,B=w.drewN q:=by
 have fit:=h.fit;have Ae:∀{k:Nat},k<ps.length->g9 ps k<18446744073709551616:=fun X=>by have:=(h.p X).2.2.2.2;omega
 have one:ew kind=1->∃b o,aa=some ⟨b,o,none⟩∧ps.length=1∧w.cell? ⟨b,o,none⟩=some (.int .u64 (g9 ps 0:Int)):=fun aw=>by
  have hl:=h.want (by omega);have hC:ps.length=1:=by omega
  obtain⟨b,o,ad,ar⟩:=J9 (g:=fun p=> .int .u64 (p.1:Int)) (fun _=>rfl) ra (by omega);exact⟨b,o,ad,hC,ar 0 _ (h.p (k:=0) (by omega)).1⟩
 have CE:ew kind=2->∃b o,aa=some ⟨b,o,none⟩∧ps.length=2∧w.cell? ⟨b,o,none⟩=some (.int .u64 (g9 ps 0:Int))∧w.cell? ⟨b,o+1,none⟩=some (.int .u64 (g9 ps 1:Int)):=fun aw=>by
  have hl:=h.want (by omega);have hC:ps.length=2:=by omega
  obtain⟨b,o,ad,ar⟩:=J9 (g:=fun p=> .int .u64 (p.1:Int)) (fun _=>rfl) ra (by omega);exact⟨b,o,ad,hC,ar 0 _ (h.p (k:=0) (by omega)).1,ar 1 _ (h.p (k:=1) (by omega)).1⟩
 have bT:=h.w1;have gp:=h.w2;have azs:2^width<=2^32:=q7 (by decide) gp;rcases h.kinds with rfl | rfl | rfl | rfl | rfl | rfl | rfl | rfl | X
 ·have ag:num<=2^width - 1:=by
   have:hX 1 width num (m9 ps)=decide ((num:Int)<=((2^(width:Int).toNat:Nat):Int) - 1):=rfl
   rw[this,s5,vg] at fit
   have:=Nat.one_le_two_pow (n:=width)
   omega
  have e:hh 1 width num ps=num%2^width:=by
   show num=_
   have:=Nat.one_le_two_pow (n:=width)
   rw[Nat.mod_eq_of_lt (by omega)]
  rw[e];exact atk w width bT gp num aa _ es ee _ ca h.n64
 ·obtain⟨b,o,rfl,hl,c0⟩:=one rfl;have ag:num<=64:=by
   have:hX 5 width num (m9 ps)=decide ((num:Int)<bi (m9 ps) 0∧(num:Int)+width<=bi (m9 ps) 0):=rfl
   rw[this,s5,at_ws (by omega)] at fit
   have:=(h.p (k:=0) (by omega)).2.2.2.1
   omega
  exact atr w width bT gp num b o _ es ee _ ca _ (Ae (by omega)) (by omega) (by omega) c0
 ·obtain⟨b,o,rfl,hl,c0⟩:=one rfl;exact ate w width bT gp num b o _ es ee _ ca _ (Ae (by omega)) (by omega) c0
 ·have cb:=h.ne rfl;have DI:0<ps.length:=List.length_pos_iff.2 cb;obtain⟨b,o,rfl,ar⟩:=J9 (g:=fun p=> .int .u64 (p.1:Int)) (fun _=>rfl) ra DI;obtain⟨b2,hT,rfl,lU⟩:=J9 (g:=fun p=> .int .i64 (p.2:Int)) (fun _=>rfl) af8 DI;have hs:(ps.map (·.2)).sum=width:=by
   have:hX 7 width num (m9 ps)=decide ((m9 ps).sum=width):=rfl
   rw[this,s5,agt] at fit;omega
  have e:hh 7 width num ps=um ps%2^width:=by
   show um ps=_
   have:=Uu ps (fun p aE=>(h.rng p aE).1)
   rw[hs] at this;rw[Nat.mod_eq_of_lt this]
  rw[e];exact atc w width bT gp num b o es ca b2 hT ps h.len (fun p aE=>(h.rng p aE).1) (fun p aE=>(h.rng p aE).2.2) (by omega) ar lU
 ·obtain⟨b,o,rfl,hl,c0⟩:=one rfl;exact atj w width bT gp num b o _ es ee _ ca _ (Ae (by omega)) (by omega) c0
 ·obtain⟨b,o,rfl,hl,c0⟩:=one rfl;obtain⟨b2,hT,rfl,lU⟩:=J9 (g:=fun p=> .int .i64 (p.2:Int)) (fun _=>rfl) af8 (by omega);have aE:=h.p (k:=0) (by omega);exact as9 w width bT gp num b o _ es _ ca b2 hT _ _ aE.2.2.1 aE.2.2.2.1 (by omega) (by omega) c0 (lU 0 _ aE.1)
 ·obtain⟨b,o,rfl,hl,c0⟩:=one rfl;exact atb w width bT gp num b o _ es ee _ ca _ (by omega) c0
 ·obtain⟨b,o,rfl,hl,c0⟩:=one rfl;exact atl w width bT gp num b o _ es ee _ ca _ (Ae (by omega)) (by omega) c0
 ·have aor:kind=12∨kind=13∨kind=14∨kind=15∨kind=16∨kind=17∨kind=18∨kind=19∨kind=20∨kind=21∨kind=22:=by omega
  rcases aor with rfl | rfl | rfl | rfl | rfl | rfl | rfl | rfl | rfl | rfl | rfl
  ·obtain⟨b,o,rfl,hl,c0,c1⟩:=CE rfl;have hs:=UP h (by decide) hl;have aI:=(h.p (k:=0) (by omega)).2.1;rw[hs.1] at aI;have e:hh 12 width num ps=g9 ps 0&&& g9 ps 1:=Nat.mod_eq_of_lt (Nat.lt_of_le_of_lt Nat.and_le_left aI);rw[e];exact ata w width bT gp num b o _ es ee _ ca _ _ (Ae (by omega)) (Ae (by omega)) (by omega) c0 c1
  ·obtain⟨b,o,rfl,hl,c0,c1⟩:=CE rfl;have hs:=UP h (by decide) hl;have aI:=(h.p (k:=0) (by omega)).2.1;have F:=(h.p (k:=1) (by omega)).2.1;rw[hs.1] at aI;rw[hs.2] at F;have e:hh 13 width num ps=g9 ps 0||| g9 ps 1:=Nat.mod_eq_of_lt (Nat.or_lt_two_pow aI F)
   rw[e];exact atm w width bT gp num b o _ es ee _ ca _ _ (Ae (by omega)) (Ae (by omega)) (by omega) c0 c1
  ·obtain⟨b,o,rfl,hl,c0,c1⟩:=CE rfl;have hs:=UP h (by decide) hl;have aI:=(h.p (k:=0) (by omega)).2.1;have F:=(h.p (k:=1) (by omega)).2.1;rw[hs.1] at aI;rw[hs.2] at F;have e:hh 14 width num ps=g9 ps 0 ^^^ g9 ps 1:=Nat.mod_eq_of_lt (Nat.xor_lt_two_pow aI F);rw[e];exact att w width bT gp num b o _ es ee _ ca _ _ (Ae (by omega)) (Ae (by omega)) (by omega) c0 c1
  ·obtain⟨b,o,rfl,hl,c0,c1⟩:=CE rfl;exact as8 w width bT gp num b o _ es ee _ ca _ _ (by omega) c0 c1
  ·obtain⟨b,o,rfl,hl,c0,c1⟩:=CE rfl;exact ats w width bT gp num b o _ es ee _ ca _ _ (Ae (by omega)) (by omega) c0 c1
  ·obtain⟨b,o,rfl,hl,c0,c1⟩:=CE rfl;exact ati w width bT gp num b o _ es ee _ ca _ _ (by omega) c0 c1
  ·obtain⟨b,o,rfl,hl,c0,c1⟩:=CE rfl;by_cases aF:width<=g9 ps 1
   ·have e:hh 18 width num ps=0:=auE _ _ _ aF gp;rw[e];exact ato w width bT gp num b o _ es ee _ ca _ _ (by omega) (by omega) c0 c1
   ·have e:hh 18 width num ps=(g9 ps 0*2^g9 ps 1)%18446744073709551616%2^width:=by
     show(g9 ps 0*2^(min (g9 ps 1) 64))%18446744073709551616%2^width=_
     rw[Nat.min_eq_left (by omega)]
    rw[e];exact atn w width bT gp num b o _ es ee _ ca _ _ (by omega) (by omega) c0 c1
  ·obtain⟨b,o,rfl,hl,c0,c1⟩:=CE rfl;have aI:=(h.p (k:=0) (by omega)).2.1;have hs:tD ps 0=width:=by
    have:hX 19 width num (m9 ps)=decide (bi (m9 ps) 0=width):=rfl
    rw[this,s5,at_ws (by omega)] at fit;omega
   rw[hs] at aI;by_cases aF:width<=g9 ps 1
   ·have e:hh 19 width num ps=0:=by
     show g9 ps 0 / 2^(min (g9 ps 1) 64)%2^width=0
     have:2^width<=2^(min (g9 ps 1) 64):=q7 (by decide) (by omega)
     rw[Nat.div_eq_of_lt (by omega)];simp
    rw[e];exact atq w width bT gp num b o _ es ee _ ca _ _ (by omega) (by omega) c0 c1
   ·have e:hh 19 width num ps=g9 ps 0 / 2^g9 ps 1:=by
     show g9 ps 0 / 2^(min (g9 ps 1) 64)%2^width=_;rw[Nat.min_eq_left (by omega)];exact Nat.mod_eq_of_lt (Nat.lt_of_le_of_lt (Nat.div_le_self _ _) aI)
    rw[e];exact atp w width bT gp num b o _ es ee _ ca _ _ (by omega) (by omega) c0 c1
  ·obtain⟨b,o,rfl,hl,c0,c1⟩:=CE rfl;have hs:width=1:=by
    have:hX 20 width num (m9 ps)=decide (bi (m9 ps) 0=bi (m9 ps) 1∧(width:Int)=1):=rfl
    rw[this,s5] at fit;omega
   have e:hh 20 width num ps=n6 (decide (g9 ps 0=g9 ps 1)):=by
    show n6 _%2^width=_;rw[hs];exact Nat.mod_eq_of_lt (Um _)
   rw[e];exact atd w width bT gp num b o _ es ee _ ca _ _ (by omega) c0 c1
  ·obtain⟨b,o,rfl,hl,c0,c1⟩:=CE rfl;have hs:width=1:=by
    have:hX 21 width num (m9 ps)=decide (bi (m9 ps) 0=bi (m9 ps) 1∧(width:Int)=1):=rfl
    rw[this,s5] at fit;omega
   have e:hh 21 width num ps=n6 (decide (g9 ps 0<g9 ps 1)):=by
    show n6 _%2^width=_;rw[hs];exact Nat.mod_eq_of_lt (Um _)
   rw[e];exact ath w width bT gp num b o _ es ee _ ca _ _ (by omega) c0 c1
  ·have hl:=h.want (by decide);have hC:ps.length=3:=by have:ew 22=3:=rfl;omega
   obtain⟨b,o,rfl,ar⟩:=J9 (g:=fun p=> .int .u64 (p.1:Int)) (fun _=>rfl) ra (by omega);have c0:=ar 0 _ (h.p (k:=0) (by omega)).1;by_cases ao:g9 ps 0=0
   ·have e:hh 22 width num ps=g9 ps 2:=by show(if g9 ps 0≠0 then _ else _)=_;rw[if_neg (by simp[ao])]
    rw[e];exact atf w width bT gp num b o _ es ee _ ca _ _ (by omega) (by omega) c0 (ar 2 _ (h.p (k:=2) (by omega)).1)
   ·have e:hh 22 width num ps=g9 ps 1:=by show(if g9 ps 0≠0 then _ else _)=_;rw[if_pos ao]
    rw[e];exact atg w width bT gp num b o _ es ee _ ca _ _ (by omega) (by omega) c0 (ar 1 _ (h.p (k:=1) (by omega)).1)
theorem as7 (kind:Int) (width num:Nat) (ps:List (Nat×Nat)) (h:Ht kind width num ps):hh kind width num ps<2^width:=by
 have fit:=h.fit;have Gi:=Nat.two_pow_pos width;have awc:∀n:Int,ew kind=n->0<=n->(ps.length:Int)=n:=fun n e aI=>by rw[<-e];exact h.want (by omega)
 have abM:∀b,n6 b<2^width:=fun b=>bk (Um b) (q7 (by decide) h.w1)
 rcases h.kinds with rfl | rfl | rfl | rfl | rfl | rfl | rfl | rfl | X
 ·show num<_
  have:hX 1 width num (m9 ps)=decide ((num:Int)<=((2^(width:Int).toNat:Nat):Int) - 1):=rfl
  rw[this,s5,vg] at fit;omega
 ·exact Nat.mod_lt _ Gi
 ·exact Nat.mod_lt _ Gi
 ·show um ps<_;have hs:(ps.map (·.2)).sum=width:=by
   have:hX 7 width num (m9 ps)=decide ((m9 ps).sum=width):=rfl
   rw[this,s5,agt] at fit;omega
  rw[<-hs];exact Uu ps (fun p aE=>(h.rng p aE).1)
 ·exact Nat.mod_lt _ Gi
 ·exact abM _
 ·exact abM _
 ·exact bk (as0 64 _) (q7 (n:=2) (by decide) h.w1)
 ·by_cases Kl:kind=22
  ·subst Kl;have hl:=awc 3 rfl (by decide)
   have:hX 22 width num (m9 ps)=decide (bi (m9 ps) 0=1∧bi (m9 ps) 1=width∧bi (m9 ps) 2=width):=rfl
   rw[this,s5,at_ws (by omega),at_ws (by omega),at_ws (by omega)] at fit;have F:=(h.p (k:=1) (by omega)).2.1;have O:=(h.p (k:=2) (by omega)).2.1;rw[show tD ps 1=width by omega] at F;rw[show tD ps 2=width by omega] at O
   show(if g9 ps 0≠0 then g9 ps 1 else g9 ps 2)<_
   split
   ·exact F
   ·exact O
  ·have e:hh kind width num ps=abU kind (g9 ps 0) (g9 ps 1)%2^width:=by
    unfold hh;rw[if_neg (by omega),if_neg (by omega),if_neg (by omega),if_neg (by omega),if_neg (by omega),if_neg (by omega),if_neg (by omega),if_neg (by omega),if_neg (by omega)]
   rw[e];exact Nat.mod_lt _ Gi
def oV (kind width:Int) (ws:List Int):Bool :=
 if kind=8∨kind=18∨kind=19 then decide (bi ws 0=width)
 else if 12<=kind∧kind<=17 then decide (bi ws 0=width∧bi ws 1=width)
 else if 9<=kind∧kind<=11 then decide (width=1)
 else if kind=20∨kind=21 then decide (width=1∧bi ws 0=bi ws 1)
 else if kind=22 then decide (bi ws 0=1∧bi ws 1=width∧bi ws 2=width)
 else if kind=7 then decide (ws.sum=width)
 else true
theorem awg (Y:Nat) (w:World) (a7:Nat) (S:dp) (N:aR) (h:mn Y w a7 S N) (aM:Y<=w.heap.size) (ab bj:Nat) (d:eO) (U:oR Y w N ab bj d) (bO:∀a,a∈d.args->0<=a∧a<(N.nodes.length:Int)) (X:d.kind=8∨d.kind=18∨d.kind=19) (hl:0<d.args.length) :
  Calls Tryz.prog 68 #[iF a7,.pointer (some ⟨ab,bj,none⟩)] w fun e B=>e = .returned (.bool (decide (bi (cG N d.args) 0=d.width)))∧V w B:=by
 have c0:w.cell? ⟨ab,bj,none⟩=some (.int .i64 d.kind):=U.cells 0 _ rfl;have c1:=U.cells 1 _ rfl;have c3:=U.cells 3 _ rfl;have cR:ab<w.heap.size:=bk U.lt aM;have aU:=U.len;simp only[cd] at aU;have sw:Hid (∀(k:Nat),k<d.args.length->∀(x:Int),x=(k:Int)->∀B,V w B->∀kI gs,B.cell? ⟨kI,0,none⟩=some (.pointer (some ⟨a7,0,none⟩))->B.cell? ⟨gs,0,none⟩=some (.pointer (some ⟨ab,bj,none⟩))->Calls Tryz.prog 89 #[.int .i64 x,.pointer (some ⟨kI,0,none⟩),.pointer (some ⟨gs,0,none⟩)] B fun e bs=>e = .returned (.int .i64 (bi (cG N d.args) k))∧V B bs) :=
  fun k X x J B aV kI gs bb L=>OZ Y B a7 S N (h.to (aV.mono aM)) ab bj d (U.to (aV.mono aM)) bO kI gs bb L k X x J
 have B8:∀(fn:Fn) (first cap:Array Value) (w:World),(Instr.makeFunc fn first cap).run Tryz.prog w = .ok (.func fn first cap) w:=fun _ _ _ _=>rfl
 unfold iF;clear h U bO;obtain⟨kind,width,num,args,aa,ac⟩:=d;simp only at *;have jZ:=K (sw 0 (by omega) 0 rfl);clear sw;generalize bi (cG N args) 0=bX at *;rcases X with rfl | rfl | rfl
 all_goals
  go_enter Tryz.func68,Tryz.ntmps68
  go_wp2_with fail
  generalize av:World.alloc (World.alloc w (.cells #[.pointer (some ⟨a7,0,none⟩)] _)) (.cells #[.pointer (some ⟨ab,bj,none⟩)] _)=I;have aD:Hid (V w I):=by rw[<-av];exact((ax _ _).alloc (aL _) _).alloc (by simp) _
  have uO:I.cell? ⟨w.heap.size,0,none⟩=some (.pointer (some ⟨a7,0,none⟩)):=by rw[<-av];simp
  have tz:I.cell? ⟨w.heap.size+1,0,none⟩=some (.pointer (some ⟨ab,bj,none⟩)):=by rw[<-av];simp
  have mK:w.heap.size<I.heap.size:=by rw[<-av];simp;omega
  have hy:w.heap.size+1<I.heap.size:=by rw[<-av];simp
  clear av;have m3:=(aD.cell (p:=⟨ab,bj,none⟩) cR).trans c0;have k1:=(aD.cell (p:=⟨ab,bj+1,none⟩) cR).trans c1;have k3:=(aD.cell (p:=⟨ab,bj+3,none⟩) cR).trans c3;have iu:ab<I.heap.size:=Nat.lt_trans cR mK;clear c0 c1 c3;have Bt:Hid (∀B,V I B->Calls Tryz.prog 89 #[.int .i64 0,.pointer (some ⟨w.heap.size,0,none⟩),.pointer (some ⟨w.heap.size+1,0,none⟩)] B fun e bs=>e = .returned (.int .i64 bX)∧V B bs) :=
   fun B aV=>jZ B (aD.trans (aV.mono aD.size)) _ _ ((aV.cell (p:=⟨w.heap.size,0,none⟩) mK).trans uO) ((aV.cell (p:=⟨w.heap.size+1,0,none⟩) hy).trans tz)
  clear jZ;go_wp2_with fail
  refine mR ?_;refine ih (S:=(fun B=>V I B∧(∀bw o,bw<I.heap.size->B.cell? ⟨bw,o,none⟩=I.cell? ⟨bw,o,none⟩))) (by kernel_rfl) (by(first | assumption | exact gl (ax _ _) | exact gl (ax _ _).drew | exact lL (by assumption) (by assumption))) (fun ii=>?_);refine R 0 ?_;refine R 2 ?_;refine R 3 ?_;refine R 4 ?_;refine R 5 ?_;refine rd 1 fun aj W=>?_
  (try simp only[bf,bg,bh]);go_simp;go_at_call 89;refine(Bt _ (And.left (by assumption))).mono ?_;rintro e w2 ⟨rfl,bH⟩;go_wp2_with fail
  refine W.out _ _ (by(first | assumption | exact gl (ax _ _) | exact gl (ax _ _).drew | exact lL (by assumption) (by assumption))) (fun oC=>?_);clear W aj;try simp only[Act.put,mP,mh,mi]
  refine R 6 ?_;refine R 7 ?_;refine gn (by kernel_rfl) ?_ _;refine j8 ?_;have cg:Hid (V I _):=And.left (by assumption);go_wp2_with fail
  go_ret
  exact⟨ia (by first | rfl | (rw[iI];simp) | rw[iI]),aD.trans (cg.mono aD.size)⟩
theorem awl (Y:Nat) (w:World) (a7:Nat) (S:dp) (N:aR) (_h:mn Y w a7 S N) (aM:Y<=w.heap.size) (ab bj:Nat) (d:eO) (U:oR Y w N ab bj d) (X:d.kind=9∨d.kind=10∨d.kind=11) :
  Calls Tryz.prog 68 #[iF a7,.pointer (some ⟨ab,bj,none⟩)] w fun e B=>e = .returned (.bool (decide (d.width=1)))∧V w B:=by
 have c0:w.cell? ⟨ab,bj,none⟩=some (.int .i64 d.kind):=U.cells 0 _ rfl;have c1:=U.cells 1 _ rfl;have c3:=U.cells 3 _ rfl;have cR:ab<w.heap.size:=bk U.lt aM;have aU:=U.len;simp only[cd] at aU;have B8:∀(fn:Fn) (first cap:Array Value) (w:World),(Instr.makeFunc fn first cap).run Tryz.prog w = .ok (.func fn first cap) w:=fun _ _ _ _=>rfl
 unfold iF;clear U;obtain⟨kind,width,num,args,aa,ac⟩:=d;simp only at *;rcases X with rfl | rfl | rfl
 all_goals
  go_enter Tryz.func68,Tryz.ntmps68
  go_wp2_with fail
  generalize av:World.alloc (World.alloc w (.cells #[.pointer (some ⟨a7,0,none⟩)] _)) (.cells #[.pointer (some ⟨ab,bj,none⟩)] _)=I;have aD:Hid (V w I):=by rw[<-av];exact((ax _ _).alloc (aL _) _).alloc (by simp) _
  have uO:I.cell? ⟨w.heap.size,0,none⟩=some (.pointer (some ⟨a7,0,none⟩)):=by rw[<-av];simp
  have tz:I.cell? ⟨w.heap.size+1,0,none⟩=some (.pointer (some ⟨ab,bj,none⟩)):=by rw[<-av];simp
  have mK:w.heap.size<I.heap.size:=by rw[<-av];simp;omega
  have hy:w.heap.size+1<I.heap.size:=by rw[<-av];simp
  clear av;have m3:=(aD.cell (p:=⟨ab,bj,none⟩) cR).trans c0;have k1:=(aD.cell (p:=⟨ab,bj+1,none⟩) cR).trans c1;have k3:=(aD.cell (p:=⟨ab,bj+3,none⟩) cR).trans c3;have iu:ab<I.heap.size:=Nat.lt_trans cR mK;clear c0 c1 c3;go_wp2;go_ret
  exact⟨ia (by first | rfl | (rw[iI];simp) | rw[iI]),aD⟩
end Go.Proofs.YtcbcenfjigcfkaaGreatDoor
