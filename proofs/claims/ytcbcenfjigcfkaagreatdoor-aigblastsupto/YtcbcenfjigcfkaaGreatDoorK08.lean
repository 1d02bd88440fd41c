import Derived.Test.YtcbcenfjigcfkaaGreatDoorK07
import Derived.Laws.CopyOwn
import Derived.Lib.SliceRun
set_option maxRecDepth 100000
set_option maxHeartbeats 40000000
namespace Go.Proofs.YtcbcenfjigcfkaaGreatDoor
open Go.RowKit
theorem OL (C:Nat) (w:World) (E M first:Nat) (hs:List Z) (Ps:Nat->Prop) (h:bZ C w E M first hs Ps) (v:Value) (l:List Int) (L:cv Ps w v l) (hl:bt first hs l) (cb:0<l.length) (ag:l.length<=65536) :
  Calls Tryz.prog 78 #[.pointer (some ⟨E,0,none⟩),v] w (pi C w E M first Ps (mQ first hs l) hz):=by
 have ah:=h.len.2.1;have LX:=K (UU 95 lJ ab6 (fun _=>Ou) IM C w E M first hs Ps h v l 0 L hl cb ag (fun hs l fuel h hl Nr=>(Kf (Ou ah) (fun a b c=>by cases a <;> cases b <;> cases c <;> rfl) (fun a=>by cases a <;> rfl) (fun _=>qZ ah) (fun _ _ L=>ya L) fuel hs l h hl Nr).gd.len.1));unfold mQ;generalize sN (lJ first) 0 l.length hs l=res at *;clear h L hl ah;go_enter Tryz.func78,Tryz.ntmps78
 go_wp2_with fail
 go_at_call 94;refine LX.mono ?_;rintro e hJ (⟨ag,rfl,af,X⟩ | ⟨ag,⟨z,rfl,bq⟩,D⟩)
 ·have cl:=K (show _∧_∧_ from ⟨ag,af,X⟩);clear ag af X;unfold hz;go_wp2;go_ret
  exact .inl ⟨cl.1,rfl,cl.2.1,cl.2.2⟩
 ·have cl:=K (show _∧_∧_ from ⟨ag,bq,D⟩);clear ag bq D;unfold fI;go_wp2;exact⟨rfl,.inr ⟨cl.1,⟨z,rfl,cl.2.1⟩,cl.2.2⟩⟩
theorem akq (C:Nat) (w:World) (E M first:Nat) (hs:List Z) (Ps:Nat->Prop) (h:bZ C w E M first hs Ps) (v:Value) (l:List Int) (L:cv Ps w v l) (hl:bt first hs l) (cb:0<l.length) (ag:l.length<=65536) :
  Calls Tryz.prog 77 #[.pointer (some ⟨E,0,none⟩),v] w (pi C w E M first Ps (Ab first hs l) hz):=by
 have ah:=h.len.2.1;have LX:=K (UU 90 bE ab5 (fun _=>Fh) sF C w E M first hs Ps h v l 1 L hl cb ag (fun hs l fuel h hl Nr=>(Kf (Fh ah) (fun a b c=>by cases a <;> cases b <;> cases c <;> rfl) (fun a=>by cases a <;> rfl) (fun _=>zu ah) (fun _ _ L=>EI ah L) fuel hs l h hl Nr).gd.len.1));unfold Ab;generalize sN (bE first) 1 l.length hs l=res at *;clear h L hl ah;go_enter Tryz.func77,Tryz.ntmps77
 go_wp2_with fail
 go_at_call 94;refine LX.mono ?_;rintro e hJ (⟨ag,rfl,af,X⟩ | ⟨ag,⟨z,rfl,bq⟩,D⟩)
 ·have cl:=K (show _∧_∧_ from ⟨ag,af,X⟩);clear ag af X;unfold hz;go_wp2;go_ret
  exact .inl ⟨cl.1,rfl,cl.2.1,cl.2.2⟩
 ·have cl:=K (show _∧_∧_ from ⟨ag,bq,D⟩);clear ag bq D;unfold fI;go_wp2;exact⟨rfl,.inr ⟨cl.1,⟨z,rfl,cl.2.1⟩,cl.2.2⟩⟩
theorem as1 (C:Nat) (w:World) (E M first:Nat) (hs:List Z) (Ps:Nat->Prop) (h:bZ C w E M first hs Ps) (v:Value) (l:List Int) (L:cv Ps w v l) (hl:bt first hs l) (cb:0<l.length) (ag:l.length<=65536) :
  Calls Tryz.prog 79 #[.pointer (some ⟨E,0,none⟩),v] w (pi C w E M first Ps (AN first hs l) hz):=by
 have ah:=h.len.2.1;have LX:=K (UU 96 ic Uw (fun _=>GH) O5 C w E M first hs Ps h v l 0 L hl cb ag (fun hs l fuel h hl Nr=>(Kf (GH ah) (fun a b c=>by cases a <;> cases b <;> cases c <;> rfl) (fun a=>by cases a <;> rfl) (fun _=>qZ ah) (fun _ _ L=>ya L) fuel hs l h hl Nr).gd.len.1));unfold AN;generalize sN (ic first) 0 l.length hs l=res at *;clear h L hl ah;go_enter Tryz.func79,Tryz.ntmps79
 go_wp2_with fail
 go_at_call 94;refine LX.mono ?_;rintro e hJ (⟨ag,rfl,af,X⟩ | ⟨ag,⟨z,rfl,bq⟩,D⟩)
 ·have cl:=K (show _∧_∧_ from ⟨ag,af,X⟩);clear ag af X;unfold hz;go_wp2;go_ret
  exact .inl ⟨cl.1,rfl,cl.2.1,cl.2.2⟩
 ·have cl:=K (show _∧_∧_ from ⟨ag,bq,D⟩);clear ag bq D;unfold fI;go_wp2;exact⟨rfl,.inr ⟨cl.1,⟨z,rfl,cl.2.1⟩,cl.2.2⟩⟩
theorem am9 (w:World) (g:Nat) (cs:Array Value):w.grownBy (w.setRow g cs) (some g):=⟨rfl,rfl,rfl,by simp[World.setRow],fun k _ X=>setRow_other w g k cs (fun e=>X (by simp[e]))⟩
theorem af7 {P:Program} {w:World} (Qg X6 CF:TypeId) (Ql:TypeId) (bb:P.underlying Qg=some (.slice Ql)) (gY:(P.info? Ql).map (·.size)=some 1)
  (UC oI:Option Addr) (Qf UA Sj X5:Nat) (g off:Nat) (hV:List Value) (t:TypeId) (af:w.heap[g]?=some (.cells hV.toArray t (0,0))) (cs:List Value) (ag:cs.length=Nat.min Sj Qf)
  (DI:0<cs.length->UC=some ⟨g,off,none⟩∧∃e9,oI=some e9∧∀j v,cs[j]?=some v->w.cell? (e9.add j)=some v)
  (ej:off+cs.length<=hV.length) (F:∀v∈cs,v.oneCell'=true) :
  ∃B,(Builtin.copy_ #[Qg,X6] CF #[.slice UC Qf UA,.slice oI Sj X5]).run P w = .ok (goInt cs.length) B∧B.heap[g]?=some (.cells (splice hV off cs).toArray t (0,0))∧w.grownBy B (some g):=by
 by_cases aI:cs.length=0
 ·obtain rfl:cs=[]:=yc aI;have AA:=run_copy_none (P:=P) w Qg X6 CF Ql UC oI Qf UA Sj X5 bb gY (by simpa using ag.symm);exact⟨w,by simpa using AA,by simpa[splice] using af,qQ _ _⟩
 ·obtain⟨rfl,e9,rfl,apj⟩:=DI (by omega);have AA:=run_copy_row (P:=P) w Qg X6 CF Ql g off Qf UA e9 Sj X5 hV.toArray t cs bb gY af ag apj (by simpa using ej) F;exact⟨_,AA,by simpa[splice] using setRow_heap w g _ _ t _ af,am9 _ _ _⟩
def sD (w:World) (ls:List Int) (e:Ending) (B:World):Prop :=
 ∃g cap,e = .returned (.slice (some ⟨g,0,none⟩) ls.length cap)∧B.ownsRow w.heap.size 3 1 (.slice (some ⟨g,0,none⟩) ls.length cap) ls.length (ls.map ip)∧V w B
theorem R5 {w:World} {C e g m c:Nat} {xs:List Value} (h:w.ownsRow C e 1 (.slice (some ⟨g,0,none⟩) m c) m xs):m<=c:=by
 rcases h.2 with ⟨d9,_⟩ | ⟨oB,zb,hV,d9,D,af,mc,sP,jD,sS⟩
 ·simp at d9
 ·simp only[Value.slice.injEq,Option.some.injEq,Addr.mk.injEq,and_true,true_and] at d9;obtain⟨rfl,rfl⟩:=d9;exact mc
theorem Xp {C:Nat} {w B:World} {E M first:Nat} {hs:List Z} {Ps:Nat->Prop} (h:bZ C w E M first hs Ps) {ls:List Int} {g cap:Nat} (aY:B.ownsRow w.heap.size 3 1 (.slice (some ⟨g,0,none⟩) ls.length cap) ls.length (ls.map ip)) (D:V w B) :
  bZ C B E M first hs (cK Ps g)∧f3 C Ps w B∧cv (cK Ps g) B (.slice (some ⟨g,0,none⟩) ls.length cap) ls:=by
 have hZ:=nG.start h D aY;exact⟨hZ.gt,hZ.kp,g,0,cap,rfl,R5 aY,.inr rfl,fun i x J=>by rw[Nat.zero_add];exact hZ.cell J⟩
theorem sD.mk {C:Nat} {w B:World} {E M first:Nat} {hs:List Z} {Ps:Nat->Prop} (h:bZ C w E M first hs Ps) {ls:List Int} {e:Ending} (ak:sD w ls e B):gD C w E M first Ps (hs,ls) e B:=by
 obtain⟨g,cap,rfl,aY,D⟩:=ak;obtain⟨F,O,aW⟩:=Xp h aY D;exact .inl ⟨h.len.1,_,_,rfl,lK,F,O,aW⟩
structure mD (w B:World) (g n:Nat) (ls:List Int):Prop where
 ow:B.ownsRow w.heap.size 3 1 (.slice (some ⟨g,0,none⟩) n n) n (ls.map ip)
 be:V w B
section
variable {w w1 w2:World} {g n:Nat} {ls:List Int}
theorem mD.made (af:w.grownBy w1 none) (aY:w1.ownsRow w.heap.size 3 1 (.slice (some ⟨w.heap.size,0,none⟩) n n) n (madeCells (Value.int .i64 0).cells (n*1)).toList):mD w w1 w.heap.size n (List.replicate n 0):=by
 rw[ae5] at aY;exact⟨aY,tw af⟩
theorem mD.store (h:mD w w1 g n ls) (k:Nat) (x:Int) (aw:w1.setCell ⟨g,k,none⟩ (.int .i64 x)=w2):mD w w2 g n (ls.set k x):=by
 obtain⟨F,O⟩:=h.ow.stored k (ip x);have e:w1.setCell ⟨g,k,none⟩ (ip x)=w2:=aw;rw[e] at F O;rw[<-List.map_set] at F
 have:=(h.ow.lt g rfl).1
 exact⟨F,h.be.grown O h.be.size (fun k X=>by cases X;exact this)⟩
theorem mD.len (h:mD w w1 g n ls):ls.length=n:=by have:=h.ow.1;simp at this;exact this
theorem mD.cell (h:mD w w1 g n ls) {k:Nat} (X:k<n):(∃x:Int,ls[k]?=some x∧w1.cell? ⟨g,k,none⟩=some (.int .i64 x))∧w1.frozen? ⟨g,k,none⟩=false:=by
 have hl:=h.len;refine⟨⟨ls[k],ct _,?_⟩,h.ow.frozenAt k⟩;rw[h.ow.cellAt k (by omega),fT,ct (by omega)]
 rfl
theorem mD.row (h:mD w w1 g n ls):w1.heap[g]?=some (.cells (ls.map ip).toArray 3 (0,0)):=by
 have hl:=h.len;rcases h.ow.2 with ⟨d9,_⟩ | ⟨oB,zb,hV,d9,D,af,mc,sP,jD,sS⟩
 ·simp at d9
 ·simp only[Value.slice.injEq,Option.some.injEq,Addr.mk.injEq,and_true,true_and] at d9;obtain⟨rfl,rfl⟩:=d9;rw[fQ (by rw[Array.length_toList];omega)] at sS;rw[<-sS];exact af
theorem mD.ofRow (h:mD w w1 g n ls) {w2:World} {ms:List Int} (ak:w2.heap[g]?=some (.cells (ms.map ip).toArray 3 (0,0))) (hl:ms.length=n) (af:w1.grownBy w2 (some g)):mD w w2 g n ms:=by
 have cQ:=(h.ow.lt g rfl).1;refine⟨⟨by simp[hl],.inr ⟨g,n,_,rfl,cQ,ak,aL _,?_,by simp[hl],?_⟩⟩,h.be.grown af h.be.size (fun k X=>by cases X;exact cQ)⟩
 ·rcases h.ow.2 with ⟨d9,_⟩ | ⟨oB,zb,hV,d9,D,af,mc,sP,jD,sS⟩
  ·simp at d9
  ·simp only[Value.slice.injEq,Option.some.injEq,Addr.mk.injEq,and_true,true_and] at d9;obtain⟨rfl,rfl⟩:=d9;exact sP
 ·exact fQ (by simp[hl])
theorem mD.new (h:mD w w1 g n ls):sD w ls (.returned (.slice (some ⟨g,0,none⟩) n n)) w1:=by
 have hl:=h.len;subst hl;exact⟨g,_,rfl,h.ow,h.be⟩
end
theorem agl (a:List Int) (k:Nat) (b:List Int):splice (a.map ip) k (b.map ip)=(splice a k b).map ip:=by
 unfold splice;simp[List.map_take,List.map_drop]
theorem aeI:(Tryz.prog.info? 3).map (·.size)=some 1:=by kernel_rfl
theorem Xy (l:List Int):∀v,v∈l.map ip->v.oneCell'=true:=by
 intro v L;obtain⟨x,-,rfl⟩:=i6.1 L
 rfl
theorem afu (w n:Nat):yM w n=(List.range w).map (fun i=>((n / 2^i%2:Nat):Int)):=by
 induction w generalizing n with
 | zero=>rfl
 | succ w aA =>
  rw[List.range_succ_eq_map,List.map_cons,List.map_map];simp only[yM,aA,Nat.pow_zero,Nat.div_one]
  congr 1
  apply o8;intro i _;simp only[Function.comp_apply,Nat.pow_succ];rw[Nat.mul_comm,Nat.div_div_eq_div_mul]
theorem Sb {n k:Nat} (f:Nat->Int) (X:k<n):((List.range k).map f++List.replicate (n - k) 0).set k (f k)=(List.range (k+1)).map f++List.replicate (n - (k+1)) 0:=by
 rw[Sl _ n k _ (by simp) X,List.range_succ,g1]
 rfl
def PT (w:World) (n:Nat) (ls:List Int) (e:Ending) (B:World):Prop:=∃g,e = .returned (.slice (some ⟨g,0,none⟩) n n)∧mD w B g n ls
theorem PT.new {w B:World} {n:Nat} {ls:List Int} {e:Ending} (h:PT w n ls e B):sD w ls e B:=by
 obtain⟨g,rfl,h⟩:=h;exact h.new
theorem iP {w B:World} (D:V w B) {p:Addr} {v:Value} (h:w.cell? p=some v):B.cell? p=some v:=(D.cell (World.block_lt_of_cell? w p h)).trans h
theorem af1 {n k:Nat} (f:Nat->Int) (X:k<n) (aI:f k=0):(List.range k).map f++List.replicate (n - k) 0=(List.range (k+1)).map f++List.replicate (n - (k+1)) 0:=by
 rw[List.range_succ,g1,show n - k=(n - (k+1))+1 by omega,List.replicate_succ];simp[aI]
theorem aqW (l:List Int) (f:Int->Int):(List.range l.length).map (fun i=>f (l.getD i 0))=l.map f:=by
 apply List.ext_getElem?;intro i;by_cases h:i<l.length
 ·simp[h]
 ·simp[h]
def zA (up:Bool) (l:List Int) (k i:Nat):Int:=if up then (if i<k then 0 else l.getD (i - k) 0) else l.getD (i+k) 0
theorem arc (up:Bool) (l:List Int) (k:Nat):py up l k=(List.range l.length).map (zA up l k):=by
 apply List.ext_getElem?;intro i;by_cases h:i<l.length
 ·unfold py zA;rw[fT,List.getElem?_range h];cases up
  ·simp only[Bool.false_eq_true,if_false,Option.map_some];rcases Nat.lt_or_ge (i+k) l.length with O | O
   ·rw[mS (by rw[q5];omega),vh,Nat.add_comm k i,iH,ct O];rfl
   ·rw[lu (by rw[q5];omega),iH,oN O,List.getElem?_replicate,if_pos (by rw[q5];omega)];rfl
  ·simp only[if_true,Option.map_some];rw[List.getElem?_take_of_lt h];rcases Nat.lt_or_ge i k with O | O
   ·rw[mS (by rw[List.length_replicate];exact O),List.getElem?_replicate,if_pos O,if_pos O]
   ·rw[lu (by rw[List.length_replicate];exact O),List.length_replicate,if_neg (by omega),iH,ct (by omega)];rfl
 ·rw[oN (by rw[Ol];omega),oN (by simp;omega)]
theorem afv (w:World) (n num:Nat) (ag:n<=64) (yG:num<18446744073709551616) :
  Calls Tryz.prog 72 #[.int .i64 n,.int .u64 num] w (PT w n (yM n num)):=by
 obtain⟨eE,hi,ao,bA,jJ⟩:=sW;have ke:eE.bytes*n<=281474976710656:=by rw[jJ];omega
 have jc:n<=maxLen:=by simp only[maxLen];omega
 have tok:True:=trivial
 change Hid _ at hi ao bA
 clear jJ;go_enter Tryz.func72,Tryz.ntmps72
 go_wp2_with (have _t:=tok;at_make;(refine wpList_make_full _ rfl (.tmp 7) (.tmp 7) 22 rfl w.heap.size 3 eE _ 1 Tryz.underlying22 hi ao bA .i64 .i64 (n:Int) (n:Int) n rfl rfl rfl rfl ke jc (aL _) ?_;intro w1 gX ij;have ch:=K (mD.made ij gX);clear tok gX ij))
 generalize w.heap.size=g at *;go_loopw [11] (fun aq B=>∃(k:Nat),k<=n∧aq = .int .i64 k∧Hid (mD w B g n ((List.range k).map (fun i=>((num / 2^i%2:Nat):Int))++List.replicate (n - k) 0))) (fun aq _=>n - (intOf aq).toNat)
 case atStart=>exact⟨0,cE _,rfl,ch⟩
 case round =>
  obtain⟨k,X,rfl,bB⟩:=hrel;by_cases aB:k<n
  ·have fa:(k:Int)<(n:Int):=by omega
   have bM:=bF ((k:Int)+1);obtain⟨⟨i4,-,hold⟩,h1⟩:=bB.cell aB;have bp:bits BinOp.and IntKind.u64 (((num / 2^k:Nat):Int)) 1=((num / 2^k%2:Nat):Int):=by
    have:=u64_and_nat (num / 2^k) 1 (Nat.lt_of_le_of_lt (Nat.div_le_self _ _) yG) (by decide)
    rw[Nat.and_one_is_mod] at this;exact this
   have lg:((num:Int)) / (2^k)=((num / 2^k:Nat):Int):=by simp
   have l8:=bF ((num / 2^k%2:Nat):Int);have eC:Hid (∀w2 x,wr.setCell ⟨g,k,none⟩ (.int .i64 x)=w2->_):=fun w2 x (aw:wr.setCell ⟨g,k,none⟩ (.int .i64 x)=w2)=>bB.store k x aw
   have E5:=K (Sb (n:=n) (fun i=>((num / 2^i%2:Nat):Int)) aB);have iY:Hid (∀d,d=num / 2^k->(d:Int)%2=((num / 2^k%2:Nat):Int)):=fun d U=>by rw[U];omega
   obtain⟨d,U⟩:=cf (num / 2^k);have jY:=K U;rw[<-U] at bp lg l8;clear U;go_wp2_with fail
   generalize av:World.setCell wr _ _=w3;have jn:=K (eC w3 _ av);clear av hold h1;go_wp2;go_roundw
   case measure=>simp[intOf];omega
   exact⟨k+1,by omega,by simp,by have:=jn.out;rw[iY d jY,E5.out] at this;exact this⟩
  ·have cQ:¬((k:Int)<(n:Int)):=by omega
   have hB:k=n:=by omega
   subst hB;have oQ:Hid (PT w k (yM k num) (.returned (.slice (some ⟨g,0,none⟩) k k)) wr):=by
    have:=bB.out
    rw[Nat.sub_self,List.replicate_zero,List.append_nil] at this;rw[<-afu] at this;exact⟨g,rfl,this⟩
   clear cQ;go_wp2;go_ret
   exact oQ
theorem asv (w:World) (n num:Nat) (ag:n<=64) (yG:num<18446744073709551616):Calls Tryz.prog 72 #[.int .i64 n,.int .u64 num] w (sD w (yM n num)):=(afv w n num ag yG).mono fun _ _ h=>h.new
theorem aeJ (w:World) (b o c:Nat) (l:List Int) (ag:l.length<=65536) (hl:∀x,x∈l->0<=x∧x<1000000000) (ar:∀(i:Nat) (x:Int),l[i]?=some x->w.cell? ⟨b,o+i,none⟩=some (.int .i64 x)) :
  Calls Tryz.prog 80 #[.slice (some ⟨b,o,none⟩) l.length c] w (sD w (l.map bu)):=by
 obtain⟨n,bP⟩:∃n,Hid (n=l.length):=⟨_,rfl⟩
 rw[<-bP.out] at ag ⊢
 change Hid _ at ar hl
 obtain⟨eE,hi,ao,bA,jJ⟩:=sW;have ke:eE.bytes*n<=281474976710656:=by rw[jJ];omega
 have jc:n<=maxLen:=by simp only[maxLen];omega
 have tok:True:=trivial
 change Hid _ at hi ao bA
 clear jJ;go_enter Tryz.func80,Tryz.ntmps80
 go_wp2_with (have _t:=tok;at_make;(refine wpList_make_full _ rfl (.tmp 7) (.tmp 7) 22 rfl w.heap.size 3 eE _ 1 Tryz.underlying22 hi ao bA .i64 .i64 (n:Int) (n:Int) n rfl rfl rfl rfl ke jc (aL _) ?_;intro w1 gX ij;have ch:=K (mD.made ij gX);clear tok gX ij))
 generalize w.heap.size=g at *;go_loopw [11] (fun aq B=>∃(k:Nat),k<=n∧aq = .int .i64 k∧Hid (mD w B g n ((List.range k).map (fun i=>bu (l.getD i 0))++List.replicate (n - k) 0))) (fun aq _=>n - (intOf aq).toNat)
 case atStart=>exact⟨0,cE _,rfl,ch⟩
 case round =>
  obtain⟨k,X,rfl,bB⟩:=hrel;by_cases aB:k<n
  ·have fa:(k:Int)<(n:Int):=by omega
   have bM:=bF ((k:Int)+1);obtain⟨⟨i4,-,hold⟩,h1⟩:=bB.cell aB;obtain⟨x,J⟩:=bS (l:=l) (k:=k) (by have:=bP.out;omega);have ru:=iP bB.be (ar k x J);have sT:=hl x (bn J);have Fb:Hid (∀w,Calls Tryz.prog 97 #[.int .i64 x] w fun e B=>e = .returned (.int .i64 (bu x))∧B=w):=fun w=>K6 x sT.1 (by omega) w
   have eC:Hid (∀w2 x,wr.setCell ⟨g,k,none⟩ (.int .i64 x)=w2->_):=fun w2 x (aw:wr.setCell ⟨g,k,none⟩ (.int .i64 x)=w2)=>bB.store k x aw
   have E5:Hid (((List.range k).map (fun i=>bu (l.getD i 0))++List.replicate (n - k) 0).set k (bu x)=(List.range (k+1)).map (fun i=>bu (l.getD i 0))++List.replicate (n - (k+1)) 0):=by
    have:=Sb (n:=n) (fun i=>bu (l.getD i 0)) aB
    simp only[List.getD_eq_getElem?_getD,J,Option.getD_some] at this;simp only[List.getD_eq_getElem?_getD];exact this
   generalize bu x=sO at *;clear J sT;go_wp2_with fail
   go_at_call 97;refine(Fb _).mono ?_;rintro e v ⟨rfl,L⟩;rw[L];clear L;go_wp2_with fail
   generalize av:World.setCell wr _ _=w3;have jn:=K (eC w3 _ av);clear av hold h1;go_wp2;go_roundw
   case measure=>simp[intOf];omega
   exact⟨k+1,by omega,by simp,by have:=jn.out;rw[E5.out] at this;exact this⟩
  ·have cQ:¬((k:Int)<(n:Int)):=by omega
   have hB:k=n:=by omega
   subst hB;have oQ:Hid (sD w (l.map bu) (.returned (.slice (some ⟨g,0,none⟩) k k)) wr):=by
    have:=bB.new
    rw[Nat.sub_self,List.replicate_zero,List.append_nil] at this;rw[bP.out,aqW l bu] at this;rw[bP.out];exact this
   clear cQ;go_wp2;go_ret
   exact oQ
theorem aq9 (w:World) (b o c:Nat) (l:List Int) (up:Bool) (m:Nat) (xn:Int) (H6:xn=if up then (m:Int) else - (m:Int)) (ae:m<=65536) (ag:l.length<=65536) (ar:∀(i:Nat) (x:Int),l[i]?=some x->w.cell? ⟨b,o+i,none⟩=some (.int .i64 x)) :
  Calls Tryz.prog 105 #[.slice (some ⟨b,o,none⟩) l.length c,.int .i64 xn] w (sD w (py up l m)):=by
 have H4:-65536<=xn∧xn<=65536:=by rw[H6];split <;> omega
 obtain⟨n,bP⟩:∃n,Hid (n=l.length):=⟨_,rfl⟩
 rw[<-bP.out] at ag ⊢
 change Hid _ at ar H6
 clear ae;obtain⟨eE,hi,ao,bA,jJ⟩:=sW;have ke:eE.bytes*n<=281474976710656:=by rw[jJ];omega
 have jc:n<=maxLen:=by simp only[maxLen];omega
 have tok:True:=trivial
 change Hid _ at hi ao bA
 clear jJ;go_enter Tryz.func105,Tryz.ntmps105
 go_wp2_with (have _t:=tok;at_make;(refine wpList_make_full _ rfl (.tmp 9) (.tmp 9) 22 rfl w.heap.size 3 eE _ 1 Tryz.underlying22 hi ao bA .i64 .i64 (n:Int) (n:Int) n rfl rfl rfl rfl ke jc (aL _) ?_;intro w1 gX ij;have ch:=K (mD.made ij gX);clear tok gX ij))
 generalize w.heap.size=g at *;go_loopw [13] (fun aq B=>∃(k:Nat),k<=n∧aq = .int .i64 k∧Hid (mD w B g n ((List.range k).map (zA up l m)++List.replicate (n - k) 0))) (fun aq _=>n - (intOf aq).toNat)
 case atStart=>exact⟨0,cE _,rfl,ch⟩
 case round =>
  obtain⟨k,X,rfl,bB⟩:=hrel;by_cases aB:k<n
  ·have fa:(k:Int)<(n:Int):=by omega
   have bM:=bF ((k:Int)+1);obtain⟨⟨i4,-,hold⟩,h1⟩:=bB.cell aB;have lg:=bF ((k:Int) - xn);by_cases F:0<=(k:Int) - xn
   ·by_cases O:(k:Int) - xn<(n:Int)
    ·obtain⟨j,aT⟩:∃j:Nat,(k:Int) - xn=(j:Int):=⟨((k:Int) - xn).toNat,by omega⟩
     obtain⟨x,J⟩:=bS (l:=l) (k:=j) (by have:=bP.out;omega);have ru:=iP bB.be (ar j x J);have G0:Hid (zA up l m k=x):=by
      show _=_
      have:=H6.out
      unfold zA;cases up
      ·simp only[Bool.false_eq_true,if_false] at this ⊢;rw[show k+m=j by omega,iH,J];rfl
      ·simp only[if_true] at this ⊢;rw[if_neg (by omega),show k - m=j by omega,iH,J];rfl
     have eC:Hid (∀w2 x,wr.setCell ⟨g,k,none⟩ (.int .i64 x)=w2->_):=fun w2 x (aw:wr.setCell ⟨g,k,none⟩ (.int .i64 x)=w2)=>bB.store k x aw
     have E5:=K (Sb (n:=n) (zA up l m) aB);rw[G0.out] at E5;rw[aT] at F O lg;clear J lg;have lg:IntKind.i64.wrap ((k:Int) - xn)=(j:Int):=by rw[aT];exact mj _ (by omega) (by omega)
     go_wp2_with fail
     generalize av:World.setCell wr _ _=w3;have jn:=K (eC w3 _ av);clear av hold h1;go_wp2;go_roundw
     case measure=>simp[intOf];omega
     exact⟨k+1,by omega,by simp,by have:=jn.out;rw[E5.out] at this;exact this⟩
    ·have w8:Hid (zA up l m k=0):=by
      show _=_
      have:=H6.out
      have:=bP.out
      unfold zA;cases up
      ·simp only[Bool.false_eq_true,if_false] at *;rw[iH,oN (by omega)];rfl
      ·simp only[if_true] at *;omega
     clear hold h1;go_wp2;go_roundw
     case measure=>simp[intOf];omega
     exact⟨k+1,by omega,by simp,by have:=bB.out;rw[af1 (n:=n) (zA up l m) aB w8.out] at this;exact this⟩
   ·have w8:Hid (zA up l m k=0):=by
     show _=_
     have:=H6.out
     unfold zA;cases up
     ·simp only[Bool.false_eq_true,if_false] at *;omega
     ·simp only[if_true] at *;rw[if_pos (by omega)]
    clear hold h1;go_wp2;go_roundw
    case measure=>simp[intOf];omega
    exact⟨k+1,by omega,by simp,by have:=bB.out;rw[af1 (n:=n) (zA up l m) aB w8.out] at this;exact this⟩
  ·have cQ:¬((k:Int)<(n:Int)):=by omega
   have hB:k=n:=by omega
   subst hB;have oQ:Hid (sD w (py up l m) (.returned (.slice (some ⟨g,0,none⟩) k k)) wr):=by
    have:=bB.new
    rw[Nat.sub_self,List.replicate_zero,List.append_nil] at this;rw[bP.out,<-arc] at this;rw[bP.out];exact this
   clear cQ;go_wp2;go_ret
   exact oQ
theorem amC {w w1:World} {g n b o c ln:Nat} {l:List Int} (h:mD w w1 g n (List.replicate n 0)) (ar:∀(i:Nat) (x:Int),l[i]?=some x->w.cell? ⟨b,o+i,none⟩=some (.int .i64 x)) (hl:ln=l.length) :
  ∃cu M4,(Builtin.copy_ #[22,22] 3 #[.slice (some ⟨g,0,none⟩) n n,.slice (some ⟨b,o,none⟩) ln c]).run Tryz.prog w1 = .ok M4 cu∧mD w cu g n (l.take n++List.replicate (n - ln) 0):=by
 subst hl;have ae:((l.take n).map ip).length=Nat.min l.length n:=by rw[lb,jx];exact Nat.min_comm _ _
 obtain⟨cu,F,O,aW⟩:=af7 (P:=Tryz.prog) (w:=w1) 22 22 3 3 Tryz.underlying22 aeI (some ⟨g,0,none⟩) (some ⟨b,o,none⟩) n n l.length c g 0 ((List.replicate n 0).map ip) 3 h.row ((l.take n).map ip) ae
  (fun _=>⟨rfl,_,rfl,R0 (fun i x J=>by
   rw[List.getElem?_take] at J;split at J
   ·exact iP h.be (ar i x J)
   ·cases J)⟩) (by simp;omega) (Xy _)
 have e:splice (List.replicate n 0) 0 (l.take n)=l.take n++List.replicate (n - l.length) 0:=by
  unfold splice;simp;omega
 refine⟨cu,_,F,h.ofRow (g:=g) (ms:=l.take n++List.replicate (n - l.length) 0) ?_ ?_ aW⟩
 ·rw[O,agl,e]
 ·simp;omega
theorem amM (w:World) (b o c:Nat) (l:List Int) (n:Nat) (ag:n<=65536) (ar:∀(i:Nat) (x:Int),l[i]?=some x->w.cell? ⟨b,o+i,none⟩=some (.int .i64 x)) :
  Calls Tryz.prog 74 #[.slice (some ⟨b,o,none⟩) l.length c,.int .i64 n] w (sD w (l.take n++List.replicate (n - l.length) 0)):=by
 obtain⟨ln,lO⟩:∃n,Hid (n=l.length):=⟨_,rfl⟩
 rw[<-lO.out]
 change Hid _ at ar
 obtain⟨eE,hi,ao,bA,jJ⟩:=sW;have ke:eE.bytes*n<=281474976710656:=by rw[jJ];omega
 have jc:n<=maxLen:=by simp only[maxLen];omega
 have tok:True:=trivial
 change Hid _ at hi ao bA
 clear jJ;go_enter Tryz.func74,Tryz.ntmps74
 go_upto_region 2 with (have _t:=tok;at_make;(refine wpList_make_full _ rfl (.tmp 6) (.tmp 6) 22 rfl w.heap.size 3 eE _ 1 Tryz.underlying22 hi ao bA .i64 .i64 (n:Int) (n:Int) n rfl rfl rfl rfl ke jc (aL _) ?_;intro w1 gX ij;have ch:=K (mD.made ij gX);have iC:=K (amC (c:=c) ch ar lO);obtain⟨cu,M4,AA,G0⟩:=iC.out;clear tok gX ij iC))
 go_wp2_with fail
 go_ret
 exact G0.new
theorem aeK {ls:List (List Int)} {i:Nat} {x:List Int} (h:ls[i]?=some x):lX (ls.drop i)=lX (ls.drop (i+1))++x:=by
 have hi:=(cr.1 h).1;rw[List.drop_eq_getElem_cons hi];rw[ct hi] at h;rw[Option.some.inj h];simp[lX]
theorem ap5 (ls:List (List Int)) (i:Nat):(lX (ls.drop i)).length<=(lX ls).length:=by
 have e:lX (ls.take i++ls.drop i)=lX (ls.drop i)++lX (ls.take i):=by
  unfold lX;rw[List.reverse_append,List.flatten_append]
 rw[List.take_append_drop] at e;rw[e,jw];omega
def abt (w:World) (b o:Nat) (am:List Value) (ls:List (List Int)):Prop :=
 am.length=ls.length∧(∀(i:Nat) (v:Value),am[i]?=some v->w.cell? ⟨b,o+i,none⟩=some v)∧∀(i:Nat) (l:List Int),ls[i]?=some l->∃bw kG mJ,am[i]?=some (.slice (some ⟨bw,kG,none⟩) l.length mJ)∧∀(j:Nat) (x:Int),l[j]?=some x->w.cell? ⟨bw,kG+j,none⟩=some (.int .i64 x)
theorem ap7 (w:World) (b o c:Nat) (am:List Value) (ls:List (List Int)) (aw:abt w b o am ls) (cb:0<ls.length) (aU:ls.length<=65536) (DI:∀l,l∈ls->0<l.length) (ag:(lX ls).length<=65536) :
  Calls Tryz.prog 75 #[.slice (some ⟨b,o,none⟩) ls.length c] w (sD w (lX ls)):=by
 obtain⟨ev,eB,fb,em,b8⟩:=sW;obtain⟨n,bP⟩:∃n,Hid (n=ls.length):=⟨_,rfl⟩
 have yF:0<n:=by rw[bP.out];exact cb
 have azo:n<=65536:=by rw[bP.out];exact aU
 rw[<-bP.out];have lN:Hid (∀i,(lX (ls.drop i)).length<=65536):=fun i=>bL (ap5 ls i) ag
 have ko:=bF ((n:Int) - 1)
 change Hid _ at eB fb em b8 aw DI
 clear cb aU ag;go_enter Tryz.func75,Tryz.ntmps75
 go_wp2_with fail
 go_loopw [3,4] (fun eP aq B=>∃(k:Nat),k<=n∧aq = .int .i64 ((k:Int) - 1)∧Hid (B.ownsRow w.heap.size 3 1 eP (lX (ls.drop k)).length ((lX (ls.drop k)).map ip))∧Hid (V w B)) (fun _ aq _=>(intOf aq+1).toNat)
 case atStart=>exact⟨n,aL _,rfl,by show World.ownsRow _ _ _ _ _ _ _;rw[bP.out,List.drop_length];exact k8 _ _ _ _,ax _ _⟩
 case round =>
  obtain⟨k,X,rfl,a6,aD⟩:=hrel;by_cases aB:0<k
  ·obtain⟨j,aT⟩:∃j,k=j+1:=⟨k - 1,by omega⟩
   obtain⟨l,hl⟩:=bS (l:=ls) (k:=j) (by have:=bP.out;omega);obtain⟨bw,kG,mJ,L,jt⟩:=aw.2.2 j l hl;have gJ:=iP aD (aw.2.1 j _ L);have oQ:Hid (∀(q:Nat) (v:Value),(l.map ip)[q]?=some v->wr.cell? ((⟨bw,kG,none⟩:Addr).add q)=some v):=R0 (fun i x J=>iP aD (jt i x J));have bW:=K (aeK hl);have adx:=DI l (bn hl);have fG:=lN j;rw[bW.out,jw] at fG;have yq:((k:Int) - 1)=(j:Int):=by omega
   have Q3:(j:Int)<(n:Int):=by omega
   have ZJ:=K aT;rw[aT] at a6;obtain⟨m,gT⟩:∃m,Hid (m=l.length):=⟨_,rfl⟩
   obtain⟨q,iY⟩:∃q,Hid (q=(lX (ls.drop (j+1))).length):=⟨_,rfl⟩
   rw[<-gT.out] at adx fG gJ;rw[<-iY.out] at fG a6;have cn:q+m<=maxLen:=by simp only[maxLen];omega
   have cq:(q+m)*8<=140737488355328:=by omega
   have cJ:=aD.size;have y2:Hid ((l.map ip).length=m*1):=by show _=_;rw[lb,gT.out];omega
   have HQ:=bF ((j:Int) - 1);have cQ:(0:Int)<=(j:Int):=by omega
   have tok:True:=trivial;clear hl L jt aT;rw[yq];clear yq;go_upto_region 5 with fail
   go_wp2_with (have _t:=tok;at_builtin;(refine wpList_append_lies _ rfl (.tmp 12) (.tmp 16) 22 rfl w.heap.size 3 ev _ 1 8 Tryz.underlying22 eB fb em b8 rfl (by decide) u3 q _ rfl a6 ⟨bw,kG,none⟩ m mJ (l.map ip) rfl y2 oQ (Xy l) adx cn cq cJ _ rfl ?_;intro g cap al bc br aO cj;have Hl:=K bc;have cV:Hid (V w al):=aD.grown br aD.size (fun z ao=>(a6.lt z ao).1);clear tok bc br aO cj))
   go_wp2;go_roundw
   case measure=>simp[intOf]
   case rel=>exact⟨j,by omega,by simp,by
    show World.ownsRow _ _ _ _ _ _ _;have e:=Hl.out;rw[bW.out,g1,jw,<-iY.out,<-gT.out];exact e,cV⟩
  ·have Q4:k=0:=by omega
   subst Q4;have cQ:¬((0:Int)<=((0:Nat):Int) - 1):=by omega
   have nZ:Hid (sD w (lX ls) (.returned u3) wr):=by
    have F:=a6.out;rw[List.drop_zero] at F;have aE:0<(lX ls).length:=by
     obtain⟨x,J⟩:=bS (l:=ls) (k:=0) (by have:=bP.out;omega);have e:=aeK J;rw[List.drop_zero] at e;rw[e,jw]
     have:=DI x (bn J)
     omega
    obtain⟨g,cap,rfl,-,-⟩:=F.form aE;exact⟨g,cap,rfl,F,aD⟩
   go_wp2;go_ret
   exact nZ
def jV {α σ:Type} (f:List Z->σ->α->List Z×Int×σ):List Z->σ->List α->List Z×List Int×σ
 | hs,s,[]=>(hs,[],s)
 | hs,s,a::l=>((jV f (f hs s a).1 (f hs s a).2.2 l).1,(f hs s a).2.1::(jV f (f hs s a).1 (f hs s a).2.2 l).2.1,(jV f (f hs s a).1 (f hs s a).2.2 l).2.2)
theorem ago {α σ:Type} (f:List Z->σ->α->List Z×Int×σ) (l r:List α) (hs:List Z) (s:σ):jV f hs s (l++r)=((jV f (jV f hs s l).1 (jV f hs s l).2.2 r).1,(jV f hs s l).2.1++(jV f (jV f hs s l).1 (jV f hs s l).2.2 r).2.1,(jV f (jV f hs s l).1 (jV f hs s l).2.2 r).2.2):=by
 induction l generalizing hs s with
 | nil=>simp[jV]
 | cons a l aA=>simp only[List.cons_append,jV,aA]
def iw {α σ:Type} (f:List Z->σ->α->List Z×Int×σ) (hs:List Z) (s:σ) (l:List α) (k:Nat):List Z×List Int×σ:=jV f hs s (l.take k)
theorem agc {α σ:Type} (f:List Z->σ->α->List Z×Int×σ) {l:List α} {k:Nat} {a:α} (h:l[k]?=some a) (hs:List Z) (s:σ):iw f hs s l (k+1)=((f (iw f hs s l k).1 (iw f hs s l k).2.2 a).1,(iw f hs s l k).2.1++[(f (iw f hs s l k).1 (iw f hs s l k).2.2 a).2.1],(f (iw f hs s l k).1 (iw f hs s l k).2.2 a).2.2):=by
 unfold iw;rw[gM l k a h,ago]
 rfl
theorem auR {α σ:Type} (f:List Z->σ->α->List Z×Int×σ) (l:List α) (hs:List Z) (s:σ):(jV f hs s l).2.1.length=l.length:=by
 induction l generalizing hs s with
 | nil=>rfl
 | cons a l aA=>simp[jV,aA]
theorem aux {α σ:Type} (f:List Z->σ->α->List Z×Int×σ) {l:List α} {k:Nat} (h:k<=l.length) (hs:List Z) (s:σ):(iw f hs s l k).2.1.length=k:=by unfold iw;rw[auR,jx];omega
theorem aga {α σ:Type} (f:List Z->σ->α->List Z×Int×σ) (hs:List Z) (s:σ) (l:List α):iw f hs s l l.length=jV f hs s l:=by unfold iw;rw[List.take_length]
theorem agp {α σ:Type} {first:Nat} {f:List Z->σ->α->List Z×Int×σ} {P:List Z->σ->Prop} {Q:List Z->α->Prop}
  (ah:∀hs s a,bI first hs->P hs s->Q hs a->(∃n,fU first hs (f hs s a).1 n)∧P (f hs s a).1 (f hs s a).2.2) (kW:∀hs bA n a,fU first hs bA n->Q hs a->Q bA a) (l:List α) (hs:List Z) (s:σ) (h:bI first hs) (tj:P hs s) (hl:∀a,a∈l->Q hs a) :
  (∃n,fU first hs (jV f hs s l).1 n)∧P (jV f hs s l).1 (jV f hs s l).2.2:=by
 induction l generalizing hs s with
 | nil=>exact⟨⟨0,fU.refl h 0⟩,tj⟩
 | cons a l aA =>
  obtain⟨⟨n,ag⟩,O⟩:=ah hs s a h tj (hl a qe);obtain⟨⟨m,ae⟩,aW⟩:=aA (f hs s a).1 (f hs s a).2.2 ag.ok O (fun b D=>kW _ _ _ _ ag (hl b (qd _ D)));exact⟨⟨n+m,ag.trans ae⟩,aW⟩
theorem agb {α σ:Type} {first:Nat} {f:List Z->σ->α->List Z×Int×σ} {P:List Z->σ->Prop} {Q:List Z->α->Prop}
  (ah:∀hs s a,bI first hs->P hs s->Q hs a->(∃n,fU first hs (f hs s a).1 n)∧P (f hs s a).1 (f hs s a).2.2) (kW:∀hs bA n a,fU first hs bA n->Q hs a->Q bA a) (l:List α) (hs:List Z) (s:σ) (h:bI first hs) (tj:P hs s) (hl:∀a,a∈l->Q hs a) {k:Nat} {a:α} (X:l[k]?=some a) :
  bI first (iw f hs s l k).1∧P (iw f hs s l k).1 (iw f hs s l k).2.2∧Q (iw f hs s l k).1 a∧(f (iw f hs s l k).1 (iw f hs s l k).2.2 a).1.length<=(jV f hs s l).1.length:=by
 obtain⟨⟨n,ag⟩,aE⟩:=agp ah kW (l.take k) hs s h tj (fun b D=>hl b (su D));have Ku:=kW _ _ _ _ ag (hl a (bn X));refine⟨ag.ok,aE,Ku,?_⟩;obtain⟨⟨m,ae⟩,DH⟩:=ah _ _ a ag.ok aE Ku;have e:l=l.take k++(a::l.drop (k+1)):=by
  have mr:=(cr.1 X).1
  conv=>lhs;rw[<-List.take_append_drop k l]
  rw[List.drop_eq_getElem_cons mr];rw[ct mr] at X;rw[Option.some.inj X]
 conv=>rhs;rw[e]
 rw[ago];simp only[jV];obtain⟨⟨xJ,DD⟩,-⟩:=agp ah kW (l.drop (k+1)) _ _ ae.ok DH (fun b D=>kW _ _ _ _ (ag.trans ae) (hl b (List.mem_of_mem_drop D)));exact DD.len.1
structure GO (C:Nat) (az w:World) (E M first:Nat) (hs:List Z) (Ps:Nat->Prop):Prop where
 gt:bZ C w E M first hs Ps
 kp:f3 C Ps az w
theorem GO.call {C:Nat} {az w B:World} {E M first:Nat} {hs bA:List Z} {Ps:Nat->Prop} (h:GO C az w E M first hs Ps) (af:bZ C B E M first bA Ps) (X:f3 C Ps w B):GO C az B E M first bA Ps:=⟨af,h.kp.trans X⟩
theorem qx {C:Nat} {w v w2:World} {E M first:Nat} {hs:List Z} {an:Nat->Prop} (h:bZ C w E M first hs an) (D:V w v) (X:f3 C an v w2):f3 C an w w2:=(h.kp D).trans X
theorem qn {C:Nat} {w v w2:World} {E M first:Nat} {hs:List Z} {an:Nat->Prop} (h:bZ C w E M first hs an) (D:V w v) (X:Below C v w2):Below C w w2:=(D.mono h.lo.2.2).trans X
theorem cv.cells {Ps:Nat->Prop} {w:World} {b o n c:Nat} {l:List Int} (h:cv Ps w (.slice (some ⟨b,o,none⟩) n c) l) {i:Nat} {x:Int} (J:l[i]?=some x):w.cell? ⟨b,o+i,none⟩=some (.int .i64 x):=by
 obtain⟨bw,kG,mJ,ay,-,-,ar⟩:=h;obtain⟨rfl,rfl⟩:b=bw∧o=kG:=by simp at ay;exact⟨ay.1.1,ay.1.2⟩
 exact ar i x J
def lp (first:Nat) (hs:List Z) (c:Int) (p:Int×Int):List Z×Int×Int :=
 let Ao:=ic first hs p.1 p.2
 let s:=ic first Ao.1 Ao.2 c
 let bJ:=bE first s.1 p.1 p.2
 let ar:=bE first bJ.1 Ao.2 c
 let xo:=lJ first ar.1 bJ.2 ar.2
 (xo.1,s.2,xo.2)
theorem au0 (first:Nat) (l r:List Int) (c:Int) (hs:List Z):pC first hs l r c=((jV (lp first) hs c (l.zip r)).1,(jV (lp first) hs c (l.zip r)).2.1):=by
 induction l generalizing r hs c with
 | nil=>rfl
 | cons a l aA =>
  cases r with
  | nil=>rfl
  | cons b r=>simp only[pC,List.zip_cons_cons,jV,lp,aA]
def nu (first:Nat) (hs:List Z) (is:Int) (p:Int×Int):List Z×Int×Int :=
 let b:=bE first hs (bu p.1) p.2
 let q:=bE first b.1 p.1 (bu p.2)
 let s:=bE first q.1 (bu q.2) is
 let o:=lJ first s.1 b.2 s.2
 (o.1,0,o.2)
theorem aqJ (first:Nat) (l r:List Int) (is:Int) (hs:List Z):zz first hs l r is=((jV (nu first) hs is (l.zip r)).1,(jV (nu first) hs is (l.zip r)).2.2):=by
 induction l generalizing r hs is with
 | nil=>rfl
 | cons a l aA =>
  cases r with
  | nil=>rfl
  | cons b r=>simp only[zz,List.zip_cons_cons,jV,nu,aA]
theorem gD.pre {C:Nat} {w w2 B:World} {E M first:Nat} {hs:List Z} {Ps an:Nat->Prop} {res:List Z×List Int} {e:Ending} (h:bZ C w E M first hs Ps) (D:V w w2) (aE:∀b,Ps b->an b) (ae:gD C w2 E M first an res e B):gD C w E M first Ps res e B:=by
 rcases ae with ⟨F,v,jO,ay,aJ,af,X,aw⟩ | ⟨F,O,aW⟩
 ·exact .inl ⟨F,v,jO,ay,fun b D=>aJ b (aE b D),af,(h.kp D).trans (X.less aE),aw⟩
 ·exact .inr ⟨F,O,(D.mono h.lo.2.2).trans aW⟩
theorem gD.cases {C:Nat} {w B:World} {E M first:Nat} {Ps:Nat->Prop} {res:List Z×List Int} {e:Ending} (ae:gD C w E M first Ps res e B):(∃v,e = .returned v)∨(∃p,e=fI p):=by
 rcases ae with ⟨_,v,_,ay,_⟩ | ⟨_,⟨p,ay,_⟩,_⟩
 ·exact .inl ⟨v,ay⟩
 ·exact .inr ⟨p,ay⟩
theorem cv.drop {Ps:Nat->Prop} {w:World} {b o n c:Nat} {l:List Int} (h:cv Ps w (.slice (some ⟨b,o,none⟩) n c) l) (i:Nat) (hi:i<=n):cv Ps w (.slice (some ⟨b,o+i,none⟩) (n - i) (c - i)) (l.drop i):=by
 obtain⟨bw,kG,mJ,ay,ar,aE,J⟩:=h;simp only[Value.slice.injEq,Option.some.injEq,Addr.mk.injEq,and_true] at ay;obtain⟨⟨rfl,rfl⟩,rfl,rfl⟩:=ay;exact⟨b,o+i,c - i,by rw[q5],by rw[q5];omega,aE,fun j x aT=>by
  rw[vh] at aT;rw[show o+i+j=o+(i+j) by omega];exact J _ x aT⟩
theorem cv.take {Ps:Nat->Prop} {w:World} {b o n c:Nat} {l:List Int} (h:cv Ps w (.slice (some ⟨b,o,none⟩) n c) l) (k:Nat) (X:k<=n):cv Ps w (.slice (some ⟨b,o,none⟩) k c) (l.take k):=by
 obtain⟨bw,kG,mJ,ay,ar,aE,J⟩:=h;simp only[Value.slice.injEq,Option.some.injEq,Addr.mk.injEq,and_true] at ay;obtain⟨⟨rfl,rfl⟩,rfl,rfl⟩:=ay;exact⟨b,o,c,by rw[jx];congr 1;omega,by rw[jx];omega,aE,fun j x aT=>by
  rw[List.getElem?_take] at aT;split at aT
  ·exact J _ x aT
  ·cases aT⟩
theorem cv.len {Ps:Nat->Prop} {w:World} {a:Option Addr} {n c:Nat} {l:List Int} (h:cv Ps w (.slice a n c) l):n=l.length∧n<=c:=by
 obtain⟨bw,kG,mJ,ay,ar,aE,J⟩:=h;simp only[Value.slice.injEq] at ay;exact⟨ay.2.1,by omega⟩
theorem ab7 (C:Nat) (w:World) (E M first:Nat) (hs:List Z) (Ps:Nat->Prop) (h:bZ C w E M first hs Ps) (q:Int) (aJ:bN first hs q) (hJ gZ:Value) (l r:List Int) (hS:cv Ps w hJ l) (il:cv Ps w gZ r) (hl:bt first hs l) (ak:bt first hs r) (aU:l.length=r.length) (ag:l.length<=65536) :
  Calls Tryz.prog 76 #[.pointer (some ⟨E,0,none⟩),.int .i64 q,hJ,gZ] w (Fa C w E M first Ps (n8 first hs q l r)):=by
 obtain⟨w1,bT⟩:=cf (w.alloc (.cells #[.pointer (some ⟨E,0,none⟩)] 97));obtain⟨w2,gp⟩:=cf (w1.alloc (.cells #[.int .i64 q] 3));have b1:V w w1:=by rw[bT];exact(ax _ _).alloc (aL _) _
 have b2:V w1 w2:=by rw[gp];exact(ax _ _).alloc (aL _) _
 have s1:w1.heap.size=w.heap.size+1:=by rw[bT];simp
 have Bj:w2.heap.size=w.heap.size+2:=by rw[gp];simp[s1]
 have P6:V w w2:=b1.trans (b2.mono (by omega));have bK:=(h.add b1 (aL _) (by omega)).add b2 (g:=w1.heap.size) (aL _) (by omega);have c1:w2.cell? ⟨w.heap.size,0,none⟩=some (.pointer (some ⟨E,0,none⟩)):=(b2.cell (p:=⟨w.heap.size,0,none⟩) (by show w.heap.size<_;omega)).trans (by rw[bT];exact ja rfl);have c2:w2.cell? ⟨w.heap.size+1,0,none⟩=some (.int .i64 q):=by rw[gp];exact ja s1.symm
 rw[s1] at bK;have SV:=K (amf C w2 E M first hs _ bK w.heap.size (w.heap.size+1) q ⟨.inl (.inr rfl),.inr rfl⟩ ⟨c1,c2⟩ aJ hJ gZ l r ((hS.keep (fun b D=>P6.block b (h.ps b D).1)).more (fun b D=> .inl (.inl D))) ((il.keep (fun b D=>P6.block b (h.ps b D).1)).more (fun b D=> .inl (.inl D))) hl ak aU ag);have Pw:Hid (∀e B,gD C w2 E M first (cK (cK Ps w.heap.size) (w.heap.size+1)) (jb (fun hs t o=>BP first hs q t o) hs l r) e B->gD C w E M first Ps (n8 first hs q l r) e B):=fun e B ae=>gD.pre h P6 (fun b D=> .inl (.inl D)) ae
 rw[gp,bT] at SV;clear h aJ hS il hl ak b1 b2 P6 bK c1 c2 s1 Bj;go_enter Tryz.func76,Tryz.ntmps76
 go_wp2_with fail
 go_at_call 91;refine SV.mono ?_;rw[<-bT,<-gp];clear bT gp SV;rintro e al ⟨eN,qs⟩;have cO:=K (Fa.of (Pw e al eN) (qs.less (fun b D=> .inl (.inl D))));clear qs;rcases eN.cases with ⟨v,rfl⟩ | ⟨p,rfl⟩
 ·clear eN;go_wp2;go_ret
  exact cO
 ·clear eN;unfold fI at cO ⊢;go_wp2;exact⟨rfl,cO⟩
theorem ab8 (C:Nat) (w:World) (E M first:Nat) (hs:List Z) (Ps:Nat->Prop) (h:bZ C w E M first hs Ps) (q:Int) (aJ:bN first hs q) (hJ gZ:Value) (l r:List Int) (hS:cv Ps w hJ l) (il:cv Ps w gZ r) (hl:bt first hs l) (ak:bt first hs r) (aU:l.length=r.length) (ag:l.length<=65536) :
  Calls Tryz.prog 76 #[.pointer (some ⟨E,0,none⟩),.int .i64 q,hJ,gZ] w (gD C w E M first Ps (n8 first hs q l r)) :=
 (ab7 C w E M first hs Ps h q aJ hJ gZ l r hS il hl ak aU ag).mono fun _ _ h=>h.1
theorem auX (first:Nat) (hs:List Z) (c x y:Int):lp first hs c (x,y)=((lJ first (bE first (bE first (ic first (ic first hs x y).1 (ic first hs x y).2 c).1 x y).1 (ic first hs x y).2 c).1 (bE first (ic first (ic first hs x y).1 (ic first hs x y).2 c).1 x y).2 (bE first (bE first (ic first (ic first hs x y).1 (ic first hs x y).2 c).1 x y).1 (ic first hs x y).2 c).2).1,(ic first (ic first hs x y).1 (ic first hs x y).2 c).2,(lJ first (bE first (bE first (ic first (ic first hs x y).1 (ic first hs x y).2 c).1 x y).1 (ic first hs x y).2 c).1 (bE first (ic first (ic first hs x y).1 (ic first hs x y).2 c).1 x y).2 (bE first (bE first (ic first (ic first hs x y).1 (ic first hs x y).2 c).1 x y).1 (ic first hs x y).2 c).2).2):=rfl
theorem auY {C:Nat} {az w:World} {E M first:Nat} {hs:List Z} {c:Int} {l:List (Int×Int)} {Ps:Nat->Prop} {g n k:Nat} {p:Int×Int} {A:List Z} {y z:Int} (ag:n=l.length) (ad:l[k]?=some p) (J:iw (lp first) hs c l (k+1)=(A,(iw (lp first) hs c l k).2.1++[y],z)) (h:hA C az w E M first A Ps g n (((iw (lp first) hs c l k).2.1++List.replicate (n - k) 0).set k y)) :
  hA C az w E M first (iw (lp first) hs c l (k+1)).1 Ps g n ((iw (lp first) hs c l (k+1)).2.1++List.replicate (n - (k+1)) 0):=by
 have mr:=(cr.1 ad).1;rw[Sl _ n k _ (aux _ (by omega) hs c) (by omega)] at h;rw[J];exact h
theorem auW {first:Nat} (ah:1<=first):∀hs (s:Int) (a:Int×Int),bI first hs->bN first hs s->(bN first hs a.1∧bN first hs a.2)->(∃n,fU first hs (lp first hs s a).1 n)∧bN first (lp first hs s a).1 (lp first hs s a).2.2:=by
 intro hs s a h bA ad;have F:=Jp ah h ad.1 ad.2;have O:=Jp ah F.gd.ok F.inl (F.gd.inL bA);have bK:=F.gd.trans O.gd;have aW:=j2 ah O.gd.ok (bK.inL ad.1) (bK.inL ad.2);have h7:=bK.trans aW.gd;have cw:=j2 ah aW.gd.ok ((O.gd.trans aW.gd).inL F.inl) (h7.inL bA);have hY:=AO ah cw.gd.ok (cw.gd.inL aW.inl) cw.inl;exact⟨⟨_,(h7.trans cw.gd).trans hY.gd⟩,hY.inl⟩
theorem Yg (C:Nat) (w:World) (E M first:Nat) (hs:List Z) (Ps:Nat->Prop) (h:bZ C w E M first hs Ps) (hJ gZ:Value) (l r:List Int) (c:Int) (hS:cv Ps w hJ l) (il:cv Ps w gZ r) (hl:bt first hs l) (ak:bt first hs r) (ar:bN first hs c) (aU:l.length=r.length) (ag:l.length<=65536) :
  Calls Tryz.prog 98 #[.pointer (some ⟨E,0,none⟩),hJ,gZ,.int .i64 c] w (gD C w E M first Ps (pC first hs l r c)):=by
 have ef:=h.len.2.1;rw[au0];have eC:Hid (∀(k:Nat) (x y:Int),(l.zip r)[k]?=some (x,y)->bI first (iw (lp first) hs c (l.zip r) k).1∧bN first (iw (lp first) hs c (l.zip r) k).1 (iw (lp first) hs c (l.zip r) k).2.2∧(bN first (iw (lp first) hs c (l.zip r) k).1 x∧bN first (iw (lp first) hs c (l.zip r) k).1 y)∧(lp first (iw (lp first) hs c (l.zip r) k).1 (iw (lp first) hs c (l.zip r) k).2.2 (x,y)).1.length<=(jV (lp first) hs c (l.zip r)).1.length):=fun k x y ad =>
  agb (P:=bN first) (Q:=fun hs (p:Int×Int)=>bN first hs p.1∧bN first hs p.2) (auW ef) (fun _ _ _ _ g p=>⟨g.inL p.1,g.inL p.2⟩) (l.zip r) hs c h.ok ar (fun a ad=>⟨hl _ (List.of_mem_zip ad).1,ak _ (List.of_mem_zip ad).2⟩) ad
 have y4:=K hS;have pf:=K il;have cc:=K h;have G2:Hid (∀b,Ps b->b<w.heap.size):=fun b D=>(h.ps b D).1
 obtain⟨b1,iG,c1,rfl,lF,DG,-⟩:=hS;obtain⟨b2,hT,c2,rfl,lU,DH,-⟩:=il;rw[<-aU] at lU pf ⊢;obtain⟨n,mT⟩:∃n,Hid (n=l.length):=⟨_,rfl⟩
 have bP:Hid (n=(l.zip r).length):=by show n=_;rw[List.length_zip,<-aU,mT.out];omega
 rw[<-mT.out] at ag lF lU y4 pf ⊢;obtain⟨eE,hi,ao,bA,jJ⟩:=sW;have ke:eE.bytes*n<=281474976710656:=by rw[jJ];omega
 have jc:n<=maxLen:=by simp only[maxLen];omega
 have tok:True:=trivial
 change Hid _ at aU hi ao bA
 clear h hl ak jJ ar;go_enter Tryz.func98,Tryz.ntmps98
 go_wp2_with (have _t:=tok;at_make;(refine wpList_make_full _ rfl (.tmp 13) (.tmp 13) 22 rfl w.heap.size 3 eE _ 1 Tryz.underlying22 hi ao bA .i64 .i64 (n:Int) (n:Int) n rfl rfl rfl rfl ke jc (aL _) ?_;intro w1 gX ij;have ch:=K (Kc cc ij gX);clear tok gX ij))
 generalize w.heap.size=g at *;go_loopw [3,17] (fun mJ aq B=>∃(k:Nat) (oA:Int),k<=n∧aq = .int .i64 k∧mJ = .int .i64 oA∧Hid (oA=(iw (lp first) hs c (l.zip r) k).2.2)∧Hid (hA C w B E M first (iw (lp first) hs c (l.zip r) k).1 Ps g n ((iw (lp first) hs c (l.zip r) k).2.1++List.replicate (n - k) 0))) (fun _ aq _=>n - (intOf aq).toNat)
 case atStart=>exact⟨0,c,cE _,rfl,rfl,rfl,ch⟩
 case round =>
  obtain⟨k,gJ,X,rfl,rfl,JF,bB⟩:=hrel;by_cases aB:k<n
  ·obtain⟨x,J⟩:=bS (l:=l) (k:=k) (by have:=mT.out;omega);obtain⟨y,aF⟩:=bS (l:=r) (k:=k) (by have:=mT.out;have:=aU.out;omega);have ad:(l.zip r)[k]?=some (x,y):=List.getElem?_zip_eq_some.2 ⟨J,aF⟩;have l1:Hid (∀B,f3 C Ps w B->B.cell? ⟨b1,iG+k,none⟩=some (.int .i64 x)∧B.cell? ⟨b2,hT+k,none⟩=some (.int .i64 y)):=fun B ma=>⟨(y4.to ma).cells J,(pf.to ma).cells aF⟩
   have hx:=l1 wr bB.kp;have gg:=K (eC k x y ad);have bW:=K (agc (lp first) ad hs c);have fa:(k:Int)<(n:Int):=by omega
   have bM:=bF ((k:Int)+1)
   change Hid _ at ad
   clear J aF;obtain⟨aG,nO,⟨nr,ek⟩,fG⟩:=gg.out;have jE:=bW.out;rw[auX] at fG jE;dsimp only at fG jE;clear gg bW;generalize aJ:(iw (lp first) hs c (l.zip r) k).1=q at *;generalize yA:(iw (lp first) hs c (l.zip r) k).2.2=oA at *
   change Hid _ at aJ
   have F:=Jp ef aG nr ek;have qf:=K fun v (L:bZ C v E M first q (cK Ps g))=>O5 C v E M first q (cK Ps g) L _ _ nr ek
   generalize ic first q x y=co at *;have O:=Jp ef F.gd.ok F.inl (F.gd.inL nO);have bK:=F.gd.trans O.gd;have s7:=K fun v (L:bZ C v E M first co.1 (cK Ps g))=>O5 C v E M first co.1 (cK Ps g) L _ _ F.inl (F.gd.inL nO)
   generalize ic first co.1 co.2 oA=hI at *;have aW:=j2 ef O.gd.ok (bK.inL nr) (bK.inL ek);have h7:=bK.trans aW.gd;have GK:=K fun v (L:bZ C v E M first hI.1 (cK Ps g))=>sF C v E M first hI.1 (cK Ps g) L _ _ (bK.inL nr) (bK.inL ek)
   generalize bE first hI.1 x y=lk at *;have cw:=j2 ef aW.gd.ok ((O.gd.trans aW.gd).inL F.inl) (h7.inL nO);have LN:=K fun v (L:bZ C v E M first lk.1 (cK Ps g))=>sF C v E M first lk.1 (cK Ps g) L _ _ ((O.gd.trans aW.gd).inL F.inl) (h7.inL nO)
   generalize bE first lk.1 co.2 oA=Cs at *;have hY:=AO ef cw.gd.ok (cw.gd.inL aW.inl) cw.inl;have YO:=K fun v (L:bZ C v E M first Cs.1 (cK Ps g))=>IM C v E M first Cs.1 (cK Ps g) L _ _ (cw.gd.inL aW.inl) cw.inl
   generalize lJ first Cs.1 lk.2 Cs.2=Ox at *;have aa6:=K (bL hY.gd.len.1 fG);have Da:=K (bL cw.gd.len.1 aa6);have xg:=K (bL aW.gd.len.1 Da);have eb:=K (bL O.gd.len.1 xg);have qI:Hid (Ox.2=(iw (lp first) hs c (l.zip r) (k+1)).2.2):=by show _=_;rw[jE]
   change Hid _ at fG jE yA
   clear F O bK aW h7 cw hY aG nO nr ek;have VE:gJ=oA:=JF.out;subst VE;clear yA JF;go_upto_region 5 with fail
   refine nW ?_;refine ih (S:=(fun B=>B.cell? ⟨b1,iG+k,none⟩=some (.int .i64 x)∧B.cell? ⟨b2,hT+k,none⟩=some (.int .i64 y))) (by kernel_rfl) (by exact hx) (fun ii=>?_);refine R 0 ?_;refine R 1 ?_;refine R 2 ?_;refine R 3 ?_;refine R 4 ?_;refine R 5 ?_;refine R 6 ?_;refine R 7 ?_;refine R 8 ?_;refine rd 9 fun aj W=>?_
   (try simp only[bf,bg,bh]);go_simp;go_at_call 96;refine(qf _ (bB.gt.to b7)).mono ?_;rintro e w1 (⟨ae,rfl,af,bz⟩ | ⟨ae,⟨z,rfl,bq⟩,D⟩);rotate_left
   ·have bd:=K (show _∧_∧_ from ⟨bk ae eb,bq,bB.kp.below.trans (qn bB.gt b7 D)⟩);clear ae bq D;unfold fI;go_wp2_with fail
    refine gN.panic (fun eP f7=>?_);have iO:Hid (eP.defers=[]):=f7;clear f7;go_wp2;exact⟨iO,.inr ⟨bd.1,⟨z,rfl,bd.2.1⟩,bd.2.2⟩⟩
   have kl:=K (bB.call af (qx bB.gt b7 bz));clear ae af bz;unfold hz;go_wp2_with fail
   refine aQ W (by exact l1 _ kl.kp) fun kz=>?_
   clear W aj;refine R 10 ?_;refine gn (by kernel_rfl) ?_ _;refine gN.normal ?_;go_wp2_with fail
   go_at_call 96;refine(s7 _ (kl.gt.to b7)).mono ?_;rintro e w2 (⟨ae,rfl,af,bz⟩ | ⟨ae,⟨z,rfl,bq⟩,D⟩);rotate_left
   ·have bd:=K (show _∧_∧_ from ⟨bk ae xg,bq,kl.kp.below.trans (qn kl.gt b7 D)⟩);clear ae bq D;unfold fI;go_wp2;exact⟨rfl,.inr ⟨bd.1,⟨z,rfl,bd.2.1⟩,bd.2.2⟩⟩
   have op:=K (kl.call af (qx kl.gt b7 bz));clear ae af bz;unfold hz;obtain⟨⟨i4,-,hold⟩,h1⟩:=op.cell aB;go_wp2_with fail
   generalize av:World.setCell w2 _ _=w3;have pa:=K (op.store k _ av);clear av hold h1;have xq:=l1 w3 pa.kp;go_upto_region 7 with fail
   refine nW ?_;refine ih (S:=(fun B=>B.cell? ⟨b1,iG+k,none⟩=some (.int .i64 x)∧B.cell? ⟨b2,hT+k,none⟩=some (.int .i64 y))) (by kernel_rfl) (by exact xq) (fun ii=>?_);refine R 0 ?_;refine R 1 ?_;refine R 2 ?_;refine R 3 ?_;refine R 4 ?_;refine R 5 ?_;refine R 6 ?_;refine R 7 ?_;refine R 8 ?_;refine R 9 ?_;refine R 11 ?_;refine R 12 ?_;refine R 13 ?_;refine rd 10 fun aj W=>?_
   (try simp only[bf,bg,bh]);go_simp;go_at_call 90;refine(GK _ (pa.gt.to b7)).mono ?_;rintro e f1 (⟨ae,rfl,af,bz⟩ | ⟨ae,⟨z,rfl,bq⟩,D⟩);rotate_left
   ·have bd:=K (show _∧_∧_ from ⟨bk ae Da,bq,pa.kp.below.trans (qn pa.gt b7 D)⟩);clear ae bq D;unfold fI;go_wp2_with fail
    refine gN.panic (fun eP f7=>?_);have iO:Hid (eP.defers=[]):=f7;clear f7;go_wp2;exact⟨iO,.inr ⟨bd.1,⟨z,rfl,bd.2.1⟩,bd.2.2⟩⟩
   have Bu:=K (pa.call af (qx pa.gt b7 bz));clear ae af bz;unfold hz;go_wp2_with fail
   refine aQ W (by exact l1 _ Bu.kp) fun kz=>?_
   clear W aj;refine rd 14 fun aj W=>?_
   (try simp only[bf,bg,bh]);go_simp;go_at_call 90;refine(LN _ (Bu.gt.to b7)).mono ?_;rintro e al (⟨ae,rfl,af,bz⟩ | ⟨ae,⟨z,rfl,bq⟩,D⟩);rotate_left
   ·have bd:=K (show _∧_∧_ from ⟨bk ae aa6,bq,Bu.kp.below.trans (qn Bu.gt b7 D)⟩);clear ae bq D;unfold fI;go_wp2_with fail
    refine gN.panic (fun eP f7=>?_);have iO:Hid (eP.defers=[]):=f7;clear f7;go_wp2;exact⟨iO,.inr ⟨bd.1,⟨z,rfl,bd.2.1⟩,bd.2.2⟩⟩
   have wZ:=K (Bu.call af (qx Bu.gt b7 bz));clear ae af bz;unfold hz;go_wp2_with fail
   refine aQ W (by exact l1 _ wZ.kp) fun kz=>?_
   clear W aj;refine rd 15 fun aj W=>?_
   (try simp only[bf,bg,bh]);go_simp;go_at_call 95;refine(YO _ (wZ.gt.to b7)).mono ?_;rintro e aH (⟨ae,rfl,af,bz⟩ | ⟨ae,⟨z,rfl,bq⟩,D⟩);rotate_left
   ·have bd:=K (show _∧_∧_ from ⟨bk ae fG,bq,wZ.kp.below.trans (qn wZ.gt b7 D)⟩);clear ae bq D;unfold fI;go_wp2_with fail
    refine gN.panic (fun eP f7=>?_);have iO:Hid (eP.defers=[]):=f7;clear f7;go_wp2;exact⟨iO,.inr ⟨bd.1,⟨z,rfl,bd.2.1⟩,bd.2.2⟩⟩
   have zJ:=K (wZ.call af (qx wZ.gt b7 bz));clear ae af bz;unfold hz;go_wp2_with fail
   refine aQ W (by exact l1 _ zJ.kp) fun kz=>?_
   clear W aj;refine R 16 ?_;refine gn (by kernel_rfl) ?_ _;refine gN.normal ?_;have jn:=K (auY bP ad jE zJ);clear kl op pa Bu wZ zJ bB l1 qf s7 GK LN YO;go_wp2;go_roundw
   case measure=>simp[intOf];omega
   exact⟨k+1,_,by omega,by simp,rfl,qI.out,jn⟩
  ·have cQ:¬((k:Int)<(n:Int)):=by omega
   have hB:k=n:=by omega
   have jg:Hid (gD C w E M first Ps ((jV (lp first) hs c (l.zip r)).1,(jV (lp first) hs c (l.zip r)).2.1) (.returned (.slice (some ⟨g,0,none⟩) n n)) wr):=by
    have e:=bB.out;rw[hB,Nat.sub_self,List.replicate_zero,List.append_nil] at e;rw[show iw (lp first) hs c (l.zip r) n=jV (lp first) hs c (l.zip r) by rw[bP.out,aga]] at e;exact hA.done (res:=((jV (lp first) hs c (l.zip r)).1,(jV (lp first) hs c (l.zip r)).2.1)) e
   clear hB;go_wp2;go_ret
   exact jg
theorem afQ (first:Nat) (left:List Int) (io jM:List Int) (i:Nat) (all:List Int) (hs:List Z):q3 first left hs all i (io++jM)=q3 first left (q3 first left hs all i io).1 (q3 first left hs all i io).2 (i+io.length) jM:=by
 induction io generalizing i all hs with
 | nil=>simp[q3]
 | cons b io aA =>
  simp only[List.cons_append,q3,List.length_cons];rw[aA,show i+1+io.length=i+(io.length+1) by omega]
def my (first:Nat) (l:List Int) (hs:List Z) (r:List Int) (k:Nat):List Z×List Int:=q3 first l hs (List.replicate l.length 0) 0 (r.take k)
theorem atJ {first:Nat} {l:List Int} {hs:List Z} {r:List Int} {k:Nat} {bit:Int} (h:r[k]?=some bit):my first l hs r (k+1)=((pC first (xK first (my first l hs r k).1 (l.take (l.length - k)) bit).1 ((my first l hs r k).2.drop k) (xK first (my first l hs r k).1 (l.take (l.length - k)) bit).2 0).1,(my first l hs r k).2.take k++(pC first (xK first (my first l hs r k).1 (l.take (l.length - k)) bit).1 ((my first l hs r k).2.drop k) (xK first (my first l hs r k).1 (l.take (l.length - k)) bit).2 0).2):=by
 have X:=(cr.1 h).1;unfold my;rw[gM r k bit h,afQ,jx,Nat.min_eq_left (by omega),Nat.zero_add]
 rfl
theorem aby (x y:List Bool) (c:Bool):(ul x y c).length=min x.length y.length:=by
 induction x generalizing y c with
 | nil=>simp[ul]
 | cons a x aA =>
  cases y with
  | nil=>simp[ul]
  | cons b y=>simp only[ul,List.length_cons,aA];omega
theorem arh (left:List Bool) (r:List Bool) (i:Nat) (all:List Bool) (h:all.length=left.length) (hi:i+r.length<=left.length):(D0 left all i r).length=left.length:=by
 induction r generalizing i all with
 | nil=>exact h
 | cons b r aA =>
  rw[yb] at hi
  show(D0 left (Ga left all i b) (i+1) r).length=_
  apply aA
  ·unfold Ga;rw[jw,aby];simp;omega
  ·omega
theorem atK {first:Nat} (ah:1<=first) {l r:List Int} {hs:List Z} (h:bI first hs) (hl:bt first hs l) (ak:bt first hs r) (aU:l.length=r.length) (k:Nat) (X:k<=r.length):(∃n,fU first hs (my first l hs r k).1 n)∧bt first (my first l hs r k).1 (my first l hs r k).2∧(my first l hs r k).2.length=l.length∧(my first l hs r k).1.length<=(q3 first l hs (List.replicate l.length 0) 0 r).1.length:=by
 have F:=XF ah l (r.take k) 0 (List.replicate l.length 0) hs h hl (ak.take k) (bt.no ah _) (by simp);obtain⟨v0,L⟩:=uq ah;have O:(my first l hs r k).2.length=l.length:=by
  have:=F.len L
  rw[arh _ _ _ _ (by simp[oj]) (by simp[oj];omega),oj] at this;exact this
 refine⟨⟨_,F.gd⟩,F.inl,O,?_⟩;have e:q3 first l hs (List.replicate l.length 0) 0 r=q3 first l (my first l hs r k).1 (my first l hs r k).2 (0+(r.take k).length) (r.drop k):=by
  unfold my;rw[<-afQ,List.take_append_drop]
 rw[e];exact(XF ah l (r.drop k) _ _ _ F.gd.ok (F.gd.allIn hl) (F.gd.allIn (ak.drop k)) F.inl O).gd.len.1
theorem hA.row {C:Nat} {az w:World} {E M first:Nat} {hs:List Z} {Ps:Nat->Prop} {g n:Nat} {ls:List Int} (h:hA C az w E M first hs Ps g n ls):w.heap[g]?=some (.cells (ls.map ip).toArray 3 (0,0)):=by
 have hl:=h.len;rcases h.ow.2 with ⟨d9,_⟩ | ⟨oB,zb,hV,d9,D,af,mc,sP,jD,sS⟩
 ·simp at d9
 ·simp only[Value.slice.injEq,Option.some.injEq,Addr.mk.injEq,and_true,true_and] at d9;obtain⟨rfl,rfl⟩:=d9;rw[fQ (by rw[Array.length_toList];omega)] at sS;rw[<-sS];exact af
theorem hA.ofRow {C:Nat} {az w w2:World} {E M first:Nat} {hs:List Z} {Ps:Nat->Prop} {g n:Nat} {ls ms:List Int} (h:hA C az w E M first hs Ps g n ls) (ak:w2.heap[g]?=some (.cells (ms.map ip).toArray 3 (0,0))) (hl:ms.length=n) (af:w.grownBy w2 (some g)):hA C az w2 E M first hs Ps g n ms:=by
 have cQ:=(h.ow.lt g rfl).1;refine⟨h.gt.far af (.inr rfl),⟨h.kp.below.trans (jB af h.gt.lo.2.2 (fun k X=>by cases X;exact h.new.2)),fun b aE=>(af.block b (h.gt.ps b (.inl aE)).1 (fun e=>h.new.1 (by cases e;exact aE))).trans (h.kp.block b aE)⟩,⟨by simp[hl],.inr ⟨g,n,_,rfl,cQ,ak,aL _,?_,by simp[hl],?_⟩⟩,h.new⟩
 ·rcases h.ow.2 with ⟨d9,_⟩ | ⟨oB,zb,hV,d9,D,af,mc,sP,jD,sS⟩
  ·simp at d9
  ·simp only[Value.slice.injEq,Option.some.injEq,Addr.mk.injEq,and_true,true_and] at d9;obtain⟨rfl,rfl⟩:=d9;exact sP
 ·exact fQ (by simp[hl])
theorem atL {C:Nat} {az wn:World} {E M first:Nat} {hs:List Z} {Ps an:Nat->Prop} {g n k b o m c:Nat} {a s:List Int} (h:hA C az wn E M first hs Ps g n a) (bb:cv an wn (.slice (some ⟨b,o,none⟩) m c) s) (X:k<n) (bA:s.length=n - k) :
  ∃cu M4,(Builtin.copy_ #[22,22] 3 #[.slice (some ⟨g,k,none⟩) (n - k) (n - k),.slice (some ⟨b,o,none⟩) m c]).run Tryz.prog wn = .ok M4 cu∧hA C az cu E M first hs Ps g n (a.take k++s):=by
 have hl:=h.len;have ae:=bb.len.1;subst ae;obtain⟨cu,F,O,aW⟩:=af7 (P:=Tryz.prog) (w:=wn) 22 22 3 3 Tryz.underlying22 aeI (some ⟨g,k,none⟩) (some ⟨b,o,none⟩) (n - k) (n - k) s.length c g k (a.map ip) 3 h.row (s.map ip) (by rw[lb,bA];exact(Nat.min_self _).symm)
  (fun _=>⟨rfl,_,rfl,R0 (fun i x J=>bb.cells J)⟩) (by simp;omega) (Xy _)
 have e:splice a k s=a.take k++s:=by
  unfold splice;rw[List.drop_of_length_le (by omega)];simp
 refine⟨cu,_,F,h.ofRow (ms:=a.take k++s) ?_ ?_ aW⟩
 ·rw[O,agl,e]
 ·simp;omega
theorem atM (C:Nat) (w:World) (E M first:Nat) (hs:List Z) (Ps:Nat->Prop) (h:bZ C w E M first hs Ps) (hJ gZ:Value) (l r:List Int) (hS:cv Ps w hJ l) (il:cv Ps w gZ r) (hl:bt first hs l) (ak:bt first hs r) (aU:l.length=r.length) (ag:l.length<=64) :
  Calls Tryz.prog 99 #[.pointer (some ⟨E,0,none⟩),hJ,gZ] w (gD C w E M first Ps (q3 first l hs (List.replicate l.length 0) 0 r)):=by
 have ef:=h.len.2.1;have kJ:=K h.ok;have Mp:Hid (∀k,k<=r.length->_):=fun k X=>atK ef h.ok hl ak aU k X
 have y4:=K hS;have pf:=K il;have cc:=K h;have PR:=K (afv w l.length 0 ag (by decide));have ajb:Hid (yM l.length 0=List.replicate l.length 0):=by
  show _=_;rw[afu];apply List.ext_getElem?;intro i;by_cases hi:i<l.length
  ·simp[hi]
  ·simp[hi]
 rw[ajb.out] at PR;obtain⟨b1,iG,c1,rfl,lF,DG,-⟩:=hS;obtain⟨b2,hT,c2,rfl,lU,DH,-⟩:=il;rw[<-aU] at lU pf ⊢;obtain⟨n,mT⟩:∃n,Hid (n=l.length):=⟨_,rfl⟩
 rw[<-mT.out] at ag lF lU y4 pf PR ⊢;have qL:Hid (∀k,k=n->my first l hs r k=q3 first l hs (List.replicate n 0) 0 r):=fun k X=>by
  unfold my;rw[X,mT.out,aU,List.take_length]
 change Hid _ at hl ak aU
 clear h;go_enter Tryz.func99,Tryz.ntmps99
 go_wp2_with fail
 go_at_call 72;refine PR.mono ?_;rintro e w1 ⟨g,rfl,qs⟩;have ch:Hid (hA C w w1 E M first (my first l hs r 0).1 Ps g n (my first l hs r 0).2):=by
  have e:my first l hs r 0=(hs,List.replicate n 0):=by unfold my;rw[mT.out];rfl
  rw[e];exact hA.start cc qs.be (qs.ow.lt g rfl).1 qs.ow
 clear qs PR;go_wp2_with fail
 go_loopw [17] (fun aq B=>∃(k:Nat),k<=n∧aq = .int .i64 k∧Hid (hA C w B E M first (my first l hs r k).1 Ps g n (my first l hs r k).2)) (fun aq _=>n - (intOf aq).toNat)
 case atStart=>exact⟨0,cE _,rfl,ch⟩
 case round =>
  obtain⟨k,X,rfl,bB⟩:=hrel;by_cases B7:k<n
  ·obtain⟨y,aF⟩:=bS (l:=r) (k:=k) (by have:=mT.out;have:=aU.out;omega);have un:=(pf.to bB.kp).cells aF;obtain⟨⟨nl,gF⟩,kB,ks,-⟩:=Mp k (by have:=mT.out;have:=aU.out;omega);obtain⟨-,-,-,fG⟩:=Mp (k+1) (by have:=mT.out;have:=aU.out;omega);have jE:=atJ (first:=first) (l:=l) (hs:=hs) aF;rw[jE] at fG;rw[<-mT.out] at jE fG ks;dsimp only at fG;generalize aJ:(my first l hs r k).1=q at *;generalize QQ:(my first l hs r k).2=aa at *;have WV:=gF.allIn hl;have F6:=gF.inL (ak y (bn aF));have F:=RT ef (l.take (n - k)) y q gF.ok (WV.take _) F6;have rF:(xK first q (l.take (n - k)) y).2.length=n - k:=by
    obtain⟨v0,L⟩:=uq ef;rw[F.len L];simp[oj]
    have:=mT.out
    omega
   have PN:=K fun u (bb:V wr u)=>ae7 C u E M first q (cK Ps g) (bB.gt.to bb) _ _ y (((y4.to (bB.kp.trans ((bB.gt.less lK).kp bb))).take (n - k) (by omega)).more lK) (WV.take _) F6 (by rw[jx];omega)
   generalize xK first q (l.take (n - k)) y=co at *;have O:=Sn ef (aa.drop k) co.2 0 co.1 F.gd.ok (F.gd.allIn (kB.drop k)) F.inl (qZ ef);have pv:(pC first co.1 (aa.drop k) co.2 0).2.length=n - k:=by
    obtain⟨v0,L⟩:=uq ef;rw[O.len L,aby,oj,oj,q5,rF,ks];omega
   have abm:Hid (∀(u:World) (an:Nat->Prop) (wU:Value),bZ C u E M first co.1 an->cv an u wU co.2->cv an u (.slice (some ⟨g,0+k,none⟩) (n - k) (n - k)) (aa.drop k)->Calls Tryz.prog 98 #[.pointer (some ⟨E,0,none⟩),.slice (some ⟨g,k,none⟩) (n - k) (n - k),wU,.int .i64 0] u (gD C u E M first an (pC first co.1 (aa.drop k) co.2 0))):=fun u an wU af aw ad=>by
    rw[Nat.zero_add] at ad;exact Yg C u E M first co.1 an af _ wU _ _ 0 ad aw (F.gd.allIn (kB.drop k)) F.inl (qZ ef) (by rw[q5,rF,ks]) (by rw[q5];omega)
   generalize pC first co.1 (aa.drop k) co.2 0=hI at *;have eb:=K (bL O.gd.len.1 fG);have fa:(k:Int)<(n:Int):=by omega
   have bM:=bF ((k:Int)+1);have lg:IntKind.i64.wrap ((n:Int) - (k:Int))=((n - k:Nat):Int):=by rw[mj _ (by omega) (by omega)];omega
   have Aw:¬n - k=0:=by omega
   have mc:((n - k:Nat):Int)<=(c1:Int):=by omega
   change Hid _ at fG pv jE
   clear rF F O WV F6 kB ks gF aF aJ QQ;go_upto_region 6 with fail
   refine nW ?_;refine ih (S:=(fun _=>True)) (by kernel_rfl) (by trivial) (fun ii=>?_);refine R 0 ?_;refine R 1 ?_;refine R 2 ?_;refine R 3 ?_;refine R 4 ?_;refine R 5 ?_;refine R 6 ?_;refine R 7 ?_;refine R 8 ?_;refine R 9 ?_;refine R 10 ?_;refine R 11 ?_;refine R 12 ?_;refine R 13 ?_;refine rd 14 fun aj W=>?_
   (try simp only[bf,bg,bh]);go_simp;go_at_call 104;refine(PN _ b7).mono ?_;rintro e w2 (⟨ae,u1,qk,rfl,aJ,af,bz,dg⟩ | ⟨ae,⟨z,rfl,bq⟩,D⟩);rotate_left
   ·have bd:=K (show _∧_∧_ from ⟨bk ae eb,bq,bB.kp.below.trans (qn bB.gt b7 D)⟩);clear ae bq D;unfold fI;go_wp2_with fail
    refine gN.panic (fun eP f7=>?_);have iO:Hid (eP.defers=[]):=f7;clear f7;go_wp2;exact⟨iO,.inr ⟨bd.1,⟨z,rfl,bd.2.1⟩,bd.2.2⟩⟩
   have op:=K (bB.call (af.less aJ) (qx bB.gt b7 bz));have y1:=K af;have Mq:=K aJ;have abl:=K (abm w2 qk u1 af dg ((((bB.word.keep (fun b D=>(qx bB.gt b7 bz).block b D)).drop k (by omega)).more aJ)));have ajC:=K dg;obtain⟨b3,Ge,c3,rfl,-,-,-⟩:=dg;clear ae af bz aJ;go_wp2_with fail
   refine aQ W (by trivial) fun kz=>?_
   clear W aj;refine rd 15 fun aj W=>?_
   (try simp only[bf,bg,bh]);go_simp;go_at_call 98;refine(abl.out).mono ?_;rintro e w3 (⟨ae,u2,lB,rfl,aJ,af,bz,dg⟩ | ⟨ae,⟨z,rfl,bq⟩,D⟩);rotate_left
   ·have bd:=K (show _∧_∧_ from ⟨bk ae fG,bq,op.kp.below.trans (D)⟩);clear ae bq D;unfold fI;go_wp2_with fail
    refine gN.panic (fun eP f7=>?_);have iO:Hid (eP.defers=[]):=f7;clear f7;go_wp2;exact⟨iO,.inr ⟨bd.1,⟨z,rfl,bd.2.1⟩,bd.2.2⟩⟩
   have pa:=K (op.call ((af.less aJ).less Mq.out) (bz.less Mq));have aaN:=K dg;obtain⟨b4,R2,c4,rfl,-,-,-⟩:=dg;obtain⟨cu,M4,AA,G0⟩:=atL (wn:=w3) pa aaN B7 pv
   change Hid _ at G0
   clear ae af bz aJ;go_wp2_with fail
   refine aQ W (by trivial) fun kz=>?_
   clear W aj;refine rd 16 fun aj W=>?_
   (try simp only[bf,bg,bh]);go_simp;refine W.out _ _ trivial (fun xp=>?_);clear AA;clear W aj;(try simp only[Act.put]);(try simp only[mP]);(try simp only[mh,mi]);refine gn (by kernel_rfl) ?_ _;refine gN.normal ?_;have jn:Hid (hA C w cu E M first (my first l hs r (k+1)).1 Ps g n (my first l hs r (k+1)).2):=by show hA _ _ _ _ _ _ _ _ _ _ _;rw[jE.out];exact G0
   clear op pa G0 bB y1 Mq ajC aaN abl abm PN;go_wp2;go_roundw
   case measure=>simp[intOf];omega
   exact⟨k+1,by omega,by simp,jn⟩
  ·have cQ:¬((k:Int)<(n:Int)):=by omega
   have jg:Hid (gD C w E M first Ps (q3 first l hs (List.replicate n 0) 0 r) (.returned (.slice (some ⟨g,0,none⟩) n n)) wr):=by
    have e:=bB.out;rw[qL k (by omega)] at e;exact e.done
   go_wp2;go_ret
   exact jg
end Go.Proofs.YtcbcenfjigcfkaaGreatDoor
