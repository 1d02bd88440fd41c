import Derived.Test.YtcbcenfjigcfkaaGreatDoorK51
import Derived.ProofKit
import Derived.SizedLaws
import Derived.Deep.Slices
set_option maxRecDepth 100000
set_option maxHeartbeats 40000000
namespace Go.Proofs.YtcbcenfjigcfkaaGreatDoor
open Go.RowKit
def nz (a:Option Addr):aR:=⟨[4],[⟨30,4,0,[],none,0⟩,⟨31,4,0,[],none,0⟩,⟨15,4,0,[0,1],a,2⟩],[⟨4,3,2⟩],[],[],[2]⟩
theorem auK (w:World) :
  Calls Tryz.prog 5 #[] w fun e B=>∃S a,e = .returned (.agg (dp.cells S (nz a)))∧eM B.heap.size B S (nz a)∧V w B:=by
 go_enter Tryz.func5,Tryz.ntmps5
 go_wp2;generalize av:World.alloc _ _=I;have aD:Hid (V w I):=by
  rw[<-av];exact((((((ax _ _).alloc (aL _) _ |>.alloc (by simp) _ |>.alloc (by simp;omega) _) |>.alloc (by simp;omega) _) |>.alloc (by simp;omega) _) |>.alloc (by simp;omega) _) |>.alloc (by simp;omega) _)
 have hs:I.heap.size=w.heap.size+7:=by rw[<-av];simp
 have z:∀j,I.cell? ⟨w.heap.size,j,none⟩=(#[.slice (some ⟨w.heap.size+1+1,0,none⟩) 1 1,.slice (some ⟨w.heap.size+1+1+1+1,0,none⟩) 3 3,.slice (some ⟨w.heap.size+1+1+1+1+1,0,none⟩) 1 1,.slice none 0 0,.slice none 0 0,.slice (some ⟨w.heap.size+1+1+1+1+1+1,0,none⟩) 1 1]:Array Value)[j]?:=by intro j;rw[<-av,nb _ _ _ (by first | (simp;done) | (simp;omega)),nb _ _ _ (by first | (simp;done) | (simp;omega)),nb _ _ _ (by first | (simp;done) | (simp;omega)),nb _ _ _ (by first | (simp;done) | (simp;omega)),nb _ _ _ (by first | (simp;done) | (simp;omega)),nb _ _ _ (by first | (simp;done) | (simp;omega))];exact ja (by simp)
 have yW:∀j,I.cell? ⟨w.heap.size+1+1,j,none⟩=(#[.int .i64 4]:Array Value)[j]?:=by intro j;rw[<-av,nb _ _ _ (by first | (simp;done) | (simp;omega)),nb _ _ _ (by first | (simp;done) | (simp;omega)),nb _ _ _ (by first | (simp;done) | (simp;omega)),nb _ _ _ (by first | (simp;done) | (simp;omega))];exact ja (by simp)
 have YL:∀j,I.cell? ⟨w.heap.size+1+1+1,j,none⟩=(#[.int .i64 0,.int .i64 1]:Array Value)[j]?:=by intro j;rw[<-av,nb _ _ _ (by first | (simp;done) | (simp;omega)),nb _ _ _ (by first | (simp;done) | (simp;omega)),nb _ _ _ (by first | (simp;done) | (simp;omega))];exact ja (by simp)
 have aw0:∀j,I.cell? ⟨w.heap.size+1+1+1+1,j,none⟩=(#[.int .i64 30,.int .i64 4,.int .u64 0,.slice none 0 0,.int .i64 31,.int .i64 4,.int .u64 0,.slice none 0 0,.int .i64 15,.int .i64 4,.int .u64 0,.slice (some ⟨w.heap.size+1+1+1,0,none⟩) 2 2]:Array Value)[j]?:=by intro j;rw[<-av,nb _ _ _ (by first | (simp;done) | (simp;omega)),nb _ _ _ (by first | (simp;done) | (simp;omega))];exact ja (by simp)
 have aw1:∀j,I.cell? ⟨w.heap.size+1+1+1+1+1,j,none⟩=(#[.int .i64 4,.int .u64 3,.int .i64 2]:Array Value)[j]?:=by intro j;rw[<-av,nb _ _ _ (by first | (simp;done) | (simp;omega))];exact ja (by simp)
 have ss:∀j,I.cell? ⟨w.heap.size+1+1+1+1+1+1,j,none⟩=(#[.int .i64 2]:Array Value)[j]?:=by intro j;rw[<-av];exact ja (by simp)
 clear av;have oK:=z 0;have iA:=z 1;have jW:=z 2;have l0:=z 3;have s3:=z 4;have YK:=z 5;simp at oK iA jW l0 s3 YK;refine bodyPost_ret (v:= .agg #[.slice (some ⟨w.heap.size+1+1,0,none⟩) 1 1,.slice (some ⟨w.heap.size+1+1+1+1,0,none⟩) 3 3,.slice (some ⟨w.heap.size+1+1+1+1+1,0,none⟩) 1 1,.slice none 0 0,.slice none 0 0,.slice (some ⟨w.heap.size+1+1+1+1+1+1,0,none⟩) 1 1]) (by simp[results,Tryz.results5,go_sem, *]) rfl ?_;refine⟨⟨some ⟨w.heap.size+1+1,0,none⟩,1,some ⟨w.heap.size+1+1+1+1,0,none⟩,3,some ⟨w.heap.size+1+1+1+1+1,0,none⟩,1,none,0,none,0,some ⟨w.heap.size+1+1+1+1+1+1,0,none⟩,1⟩,some ⟨w.heap.size+1+1+1,0,none⟩,rfl,?_,aD⟩;have f:∀(b:Nat) (cs:Array Value) (kS:List (List Value)),(∀j,I.cell? ⟨b,j,none⟩=cs[j]?)->kS.flatten=cs.toList->∀(m:Nat) (v:Value),kS.flatten[m]?=some v->I.cell? ⟨b,m,none⟩=some v:=by
  intro b cs kS F O m v L;rw[F m,<-Array.getElem?_toList,<-O];exact L
 refine⟨D6 (by omega) (by simp[nz,j4]) (f _ _ _ yW rfl),D6 (by omega) (by simp[nz,eO.cells]) (f _ _ _ aw0 rfl),D6 (by omega) (by simp[nz,l4.cells]) (f _ _ _ aw1 rfl),D7,D7,D6 (by omega) (by simp[nz,j4]) (f _ _ _ ss rfl),?_,?_,by simp[nz,cd],by simp[nz,cd],by simp[nz,cd],by simp[nz,cd],by simp[nz,cd],by simp[nz,cd]⟩
 ·intro d U;simp only[nz,List.mem_cons,List.not_mem_nil,or_false] at U;rcases U with rfl | rfl | rfl
  ·exact⟨D7,by decide,by decide,by decide⟩
  ·exact⟨D7,by decide,by decide,by decide⟩
  ·exact⟨D6 (by omega) (by simp[j4]) (f _ _ _ YL rfl),by simp,by simp,by simp[cd]⟩
 ·intro d U;simp only[nz,List.mem_cons,List.not_mem_nil,or_false] at U;subst U;exact⟨by decide,by decide⟩
def R4 (a b:Nat):List g2:=[⟨some ⟨a,0,none⟩,1,[1]⟩,⟨some ⟨b,0,none⟩,1,[2]⟩]
theorem aqu (Y:Nat) (w:World) (S:dp) (N:aR) (h:eM Y w S N) (aM:Y<=w.heap.size) (aI:N.ins.length<=1048576) (F:N.regs.length<=1048576) (O:N.mems.length<=1048576) (aW:N.wrs.length<=1048576) (cw:N.outs.length<=1048576) (hY:N.nodes.length<=1048576) (mX:∀d,d∈N.nodes->d.args.length<=1048576) (L:y6 w) (ut:1<=w.heap.size) (nA:Option Addr) (nB:Nat) (dq:List g2) (eg:z9 Y w nA dq) :
  Calls Tryz.prog 3 #[.agg (S.cells N),.slice nA dq.length nB] w fun e B=>e = .returned (.bool true)∧V w B:=by
 have abk:Hid (∀w:World,Calls Tryz.prog 5 #[] w fun e B=>∃S a,e = .returned (.agg (dp.cells S (nz a)))∧eM B.heap.size B S (nz a)∧V w B):=auK;have abj:Hid (∀(w:World) S z (a:Option Addr) c dq,eM w.heap.size w S (nz z)->z9 w.heap.size w a dq->y6 w->1<=w.heap.size->Calls Tryz.prog 4 #[.agg (dp.cells S (nz z)),.slice a dq.length c] w fun e B=>e = .returned (.bool true)∧V w B):=fun w S z a c dq af eg L F=>abT w.heap.size w S (nz z) af (aL _) L F (by simp[nz]) (by simp[nz]) (by simp[nz]) (by simp[nz]) (by simp[nz]) (by simp[nz]) (fun d U=>by simp only[nz,List.mem_cons,List.not_mem_nil,or_false] at U;rcases U with rfl | rfl | rfl <;> simp) a c dq eg
 have ake:Hid (∀B,V w B->Calls Tryz.prog 4 #[.agg (S.cells N),.slice nA dq.length nB] B fun e bs=>e = .returned (.bool true)∧V B bs):=fun B aV =>
  abT Y B S N (h.to (aV.mono aM)) (bL aM aV.size) (L.to aV ut) (bL ut aV.size) aI F O aW cw hY mX nA nB dq (eg.to (aV.mono aM))
 have jq:=K L;clear h eg mX L;generalize jD:S.cells N=cs at *;have an8:cs=#[.slice S.a0 N.ins.length S.c0,.slice S.a1 N.nodes.length S.c1,.slice S.a2 N.regs.length S.c2,.slice S.a3 N.mems.length S.c3,.slice S.a4 N.wrs.length S.c4,.slice S.a5 N.outs.length S.c5]:=jD.symm;clear jD;subst an8;go_enter Tryz.func3,Tryz.ntmps3
 go_wp2_with fail
 generalize av:World.alloc w _=I;have aD:Hid (V w I):=by rw[<-av];exact(ax _ _).alloc (aL _) _
 have a8:w.heap.size<I.heap.size:=by rw[<-av];simp
 have e8:Hid (∀j,I.cell? ⟨w.heap.size,j,none⟩=(#[.slice S.a0 N.ins.length S.c0,.slice S.a1 N.nodes.length S.c1,.slice S.a2 N.regs.length S.c2,.slice S.a3 N.mems.length S.c3,.slice S.a4 N.wrs.length S.c4,.slice S.a5 N.outs.length S.c5]:Array Value)[j]?):=by rw[<-av];intro j;simp
 clear av;go_at_call 5;refine(abk _).mono ?_;rintro e w1 ⟨akf,awV,rfl,mb,hR⟩;have bD:=K hR;have zU:=K mb;obtain⟨mg,CD,s1,EE,Bj,Yj,af9,au3,OE,au4,uP,au5⟩:=akf;clear hR mb abk;go_wp2_with fail
 generalize uw:World.alloc _ _=qN;have nt:qN.heap.size=w1.heap.size+3:=by rw[<-uw];simp
 have cg:Hid (V w1 qN):=by
  rw[<-uw];exact(((ax _ _).alloc (aL _) _).alloc (by simp) _).alloc (by simp;omega) _
 have oM:∀j,qN.cell? ⟨w1.heap.size+1+1,j,none⟩=(#[.slice (some ⟨w1.heap.size,0,none⟩) 1 1,.slice (some ⟨w1.heap.size+1,0,none⟩) 1 1]:Array Value)[j]?:=by intro j;rw[<-uw];exact ja (by simp)
 have oK:∀j,qN.cell? ⟨w1.heap.size,j,none⟩=(#[.int .u64 1]:Array Value)[j]?:=by intro j;rw[<-uw,nb _ _ _ (by first | (simp;done) | (simp;omega)),nb _ _ _ (by first | (simp;done) | (simp;omega))];exact ja (by simp)
 have iA:∀j,qN.cell? ⟨w1.heap.size+1,j,none⟩=(#[.int .u64 2]:Array Value)[j]?:=by intro j;rw[<-uw,nb _ _ _ (by first | (simp;done) | (simp;omega))];exact ja (by simp)
 have aaK:Hid (z9 qN.heap.size qN (some ⟨w1.heap.size+1+1,0,none⟩) (R4 w1.heap.size (w1.heap.size+1))):=by
  have f:∀(b:Nat) (cs:Array Value) (kS:List (List Value)),(∀j,qN.cell? ⟨b,j,none⟩=cs[j]?)->kS.flatten=cs.toList->∀(m:Nat) (v:Value),kS.flatten[m]?=some v->qN.cell? ⟨b,m,none⟩=some v:=by
   intro b cs kS F O m v L;rw[F m,<-Array.getElem?_toList,<-O];exact L
  refine⟨D6 (by omega) (by simp[R4,g2.cells]) (f _ _ _ oM rfl),?_,by simp[R4]⟩;intro t F1;simp only[R4,List.mem_cons,List.not_mem_nil,or_false] at F1;rcases F1 with rfl | rfl
  ·exact⟨D6 (by omega) (by simp[k6]) (f _ _ _ oK rfl),by simp[cd],by simp⟩
  ·exact⟨D6 (by omega) (by simp[k6]) (f _ _ _ iA rfl),by simp[cd],by simp⟩
 have y1:Hid (eM qN.heap.size qN ⟨mg,CD,s1,EE,Bj,Yj,af9,au3,OE,au4,uP,au5⟩ (nz awV)):=(zU.to cg).mono cg.size;have E3:=K (abj qN _ _ _ 2 _ y1 aaK (jq.to (aD.trans ((bD.trans (cg.mono bD.size)).mono aD.size)) ut) (bL ut (aD.trans ((bD.trans (cg.mono bD.size)).mono aD.size)).size));have zM:Hid (V I qN):=bD.trans (cg.mono bD.size);clear uw oM oK iA abj zU aaK y1 nt;go_at_call 4;refine E3.mono ?_;rintro e w3 ⟨rfl,b8⟩;have go:=K (zM.trans (b8.mono zM.size));have Hu:Hid (∀j,w3.cell? ⟨w.heap.size,j,none⟩=(#[.slice S.a0 N.ins.length S.c0,.slice S.a1 N.nodes.length S.c1,.slice S.a2 N.regs.length S.c2,.slice S.a3 N.mems.length S.c3,.slice S.a4 N.wrs.length S.c4,.slice S.a5 N.outs.length S.c5]:Array Value)[j]?):=fun j=>(go.cell (p:=⟨w.heap.size,j,none⟩) a8).trans (e8 j)
 have gq:w3.cell? ⟨w.heap.size,0,none⟩=some (.slice S.a0 N.ins.length S.c0):=Hu 0;have cy:w3.cell? ⟨w.heap.size,1,none⟩=some (.slice S.a1 N.nodes.length S.c1):=Hu 1;have eX:w3.cell? ⟨w.heap.size,2,none⟩=some (.slice S.a2 N.regs.length S.c2):=Hu 2;have fH:w3.cell? ⟨w.heap.size,3,none⟩=some (.slice S.a3 N.mems.length S.c3):=Hu 3;have h3:w3.cell? ⟨w.heap.size,4,none⟩=some (.slice S.a4 N.wrs.length S.c4):=Hu 4;have g5:w3.cell? ⟨w.heap.size,5,none⟩=some (.slice S.a5 N.outs.length S.c5):=Hu 5;clear b8 E3 Hu;go_wp2_with fail
 go_at_call 4;refine(ake _ (aD.trans (go.mono aD.size))).mono ?_;rintro e f1 ⟨rfl,nL⟩;have jF:=K (go.trans (nL.mono go.size));clear nL gq cy eX fH h3 g5;go_wp2_with fail
 go_ret
 exact⟨rfl,aD.trans (jF.mono aD.size)⟩
end Go.Proofs.YtcbcenfjigcfkaaGreatDoor
namespace Go.Proofs.YtcbcenfjigcfkaaGreatDoor
open Go.ChangeShapes Go.WideShapes Go.ChangeAt Go.RowKit
section
variable {H:Type} {enc:TypeId×Value->H} {w:World} {jI:Nat} {spare:Nat->Bool} {qR:Bool} {fuel:Nat}
theorem c3:Tryz.prog.cellsOf 3=1:=by kernel_rfl
theorem abW:Tryz.prog.cellsOf 32=1:=by kernel_rfl
theorem ali:Tryz.prog.cellsOf 22=1:=by kernel_rfl
theorem abX:Tryz.prog.cellsOf 54=4:=by kernel_rfl
theorem abY:Tryz.prog.cellsOf 56=3:=by kernel_rfl
theorem abZ:Tryz.prog.cellsOf 60=2:=by kernel_rfl
theorem ab0:Tryz.prog.cellsOf 64=4:=by kernel_rfl
def s8 (t:TypeId) (d:DataW H):Prop:=∀n,n∈DataW.weights Tryz.prog t d->n<=reachBytes
theorem HS {t:TypeId} {ur:Array Field} {parts:List (DataW H)} (eg:Tryz.prog.underlying t=some (.struct ur)) (h:s8 t (.agg parts)) {i:Nat} {f:Field} {d:DataW H} (ah:ur[i]?=some f) (U:parts[i]?=some d):s8 f.type d:=fun n ag=>by
 refine h n ?_;rw[DataW.weights.eq_def];simp only[eg];exact DataW.weights_mem_each (j:=i) (by rw[fT,Array.getElem?_toList,ah];rfl) U n ag
theorem aq5 {e:TypeId} {l:List (DataW H)} {i:Nat} {d:DataW H} (U:l[i]?=some d):∀n,n∈DataW.weights Tryz.prog e d->n∈DataW.weightsAll Tryz.prog e l:=by
 induction l generalizing i with
 | nil=>simp at U
 | cons a r aA =>
  intro n ag;rw[DataW.weightsAll.eq_def];simp only[List.mem_append];cases i with
  | zero=>simp at U;subst U;exact .inl ag
  | succ i=>exact .inr (aA (by simpa using U) n ag)
theorem acp {t e:TypeId} {elems oI:List (DataW H)} (eg:Tryz.prog.underlying t=some (.slice e)) (h:s8 t (.slice elems oI)):(elems.length+oI.length)*Tryz.prog.bytesOf e<=reachBytes∧∀(i:Nat) (d:DataW H),elems[i]?=some d->s8 e d:=by
 have bp:DataW.weights Tryz.prog t (.slice elems oI)=(elems.length+oI.length)*Tryz.prog.bytesOf e::(DataW.weightsAll Tryz.prog e elems++DataW.weightsAll Tryz.prog e oI):=by
  rw[DataW.weights.eq_def];simp only[eg]
 unfold s8 at h;rw[bp] at h;exact⟨h _ qe,fun i d U n ag=>h n (qd _ (o7.2 (.inl (aq5 U n ag))))⟩
theorem aqN {α:Type} {Q:Nat->α->Prop} (n:Nat) (h:∀i,i<n->∃x,Q i x):∃l:List α,l.length=n∧∀(i:Nat) (x:α),l[i]?=some x->Q i x:=by
 induction n with
 | zero=>exact⟨[],rfl,fun i x J=>by simp at J⟩
 | succ n aA =>
  obtain⟨l,hl,aJ⟩:=aA (fun i hi=>h i (by omega));obtain⟨x,J⟩:=h n (by omega);refine⟨l++[x],by simp[hl],fun i y aF=>?_⟩;rcases Nat.lt_or_ge i n with hi | hi
  ·rw[mS (by omega)] at aF;exact aJ i y aF
  ·rw[lu (by omega)] at aF
   have:i - l.length=0:=by
    have:=(cr.1 aF).1
    simp at this;omega
   rw[this] at aF;simp at aF;subst aF
   have:i=n:=by omega
   rw[this];exact J
theorem auL {b o:Nat} {oI:Option Nat} {v:Value} (h:w.cell? ⟨b,o,oI⟩=some v):oI=none:=by
 cases oI with
 | none=>rfl
 | some x =>
  unfold World.cell? at h;split at h <;> simp at h
theorem abz (b o n:Nat):(⟨b,o,none⟩:Addr).add n=⟨b,o+n,none⟩:=by
 unfold Addr.add;split
 ·simp
 ·rfl
theorem open_row {α:Type} (f:α->List Value) (Q:DataW H->α->Prop) {t e:TypeId} {gx:Nat} {v:Value} {y:DataW H×List MemPlace} (eg:Tryz.prog.underlying t=some (.slice e)) (ar:Tryz.prog.cellsOf e=gx) (hs:0<gx)
  (kY:∀(fuel:Nat) (cs:List Value) (y:DataW H×List MemPlace),DataW.trod enc Tryz.prog w jI spare qR fuel e cs=some y->∃x:α,cs=f x∧Q y.1 x) (h:DataW.trod enc Tryz.prog w jI spare qR fuel t [v]=some y) :
  ∃a c,∃l:List α,v = .slice a l.length c∧cm w.heap.size w a gx (l.map f)∧((y.1 = .nil∧l=[])∨∃elems oI,y.1 = .slice elems oI∧elems.length=l.length∧∀(i:Nat) (x:α),l[i]?=some x->∃d,elems[i]?=some d∧Q d x):=by
 rcases Deep.open_slice eg h with ⟨L,aF⟩ | ⟨a,len,cap,m,n,nF,axg,L,D,qX,sP,ae,aF,Kw⟩
 ·simp only[List.cons.injEq,and_true] at L;subst L;subst aF;exact⟨none,0,[],rfl,D7,.inl ⟨rfl,rfl⟩⟩
 ·simp only[List.cons.injEq,and_true] at L;subst L;subst aF;have aov:len<=m:=by rw[ae];split <;> omega
  obtain⟨l,hl,aJ⟩:=aqN (Q:=fun i (x:α)=>(∀(j:Nat) (c:Value),(f x)[j]?=some c->w.cell? ((a.add (i*gx)).add j)=some c)∧(f x).length=gx∧Q (nF i) x) len (fun i hi=>by
   obtain⟨alM,F,O⟩:=Kw i (by omega);rw[ar] at F;obtain⟨x,J,kW⟩:=kY n alM _ O;subst J;obtain⟨-,aU,H8⟩:=World.cells?_some F;exact⟨x,fun j c aT=>(H8 j (by rw[<-aU];exact(cr.1 aT).1)).trans aT,aU,kW⟩)
  refine⟨some a,cap,l,by rw[hl],?_,.inr ⟨_,_,rfl,by simp[hl],fun i x J=>?_⟩⟩
  ·intro cb;obtain⟨bX,Ix⟩:∃x,l[0]?=some x:=by
    cases l with
    | nil=>simp at cb
    | cons a r=>exact⟨a,rfl⟩
   obtain⟨rA,jk,-⟩:=aJ 0 bX Ix;obtain⟨v0,Ce⟩:∃v,(f bX)[0]?=some v:=⟨(f bX)[0]'(by omega),ct (by omega)⟩
   have H8:=rA 0 v0 Ce;rw[show(a.add (0*gx)).add 0=a by simp[Addr.add]] at H8;have rz:=World.block_lt_of_cell? w _ H8;obtain⟨bJ,cP,axl⟩:=a;have api:=auL H8;subst api;refine⟨bJ,cP,rfl,rz,fun i cs hi j x J=>?_⟩;rw[fT] at hi;cases Au:l[i]? with
   | none=>rw[Au] at hi;simp at hi
   | some y =>
    rw[Au] at hi;simp at hi;subst hi
    have:=(aJ i y Au).1 j x J
    rw[abz,abz] at this;exact this
  ·have hi:i<len:=by rw[<-hl];exact(cr.1 J).1
   exact⟨nF i,by simp[hi],(aJ i x J).2.2⟩
end
theorem alg {H:Type} (d:DataW H):1<=Rows.uptoBulk d:=by
 cases d with
 | lit l=>cases l <;> simp[Rows.uptoBulk]
 | _=>simp[Rows.uptoBulk]
theorem abV {H:Type} {d:DataW H} {l:List (DataW H)} (h:d∈l):Rows.uptoBulk d<=Rows.uptoBulkAll l:=by
 induction l with
 | nil=>cases h
 | cons x r aA =>
  simp only[Rows.uptoBulkAll];rcases List.mem_cons.1 h with rfl | e
  ·omega
  ·have:=aA e;omega
theorem alf {H:Type} (l:List (DataW H)):l.length<=Rows.uptoBulkAll l:=by
 induction l with
 | nil=>simp
 | cons x r aA=>have:=alg x;simp only[Rows.uptoBulkAll,List.length_cons];omega
theorem Gl {H α:Type} {Q:DataW H->α->Prop} {d:DataW H} {l:List α} (h:(d = .nil∧l=[])∨∃elems oI,d = .slice elems oI∧elems.length=l.length∧∀(i:Nat) (x:α),l[i]?=some x->∃d,elems[i]?=some d∧Q d x):l.length<=Rows.uptoBulk d∧∀x,x∈l->∃e,Rows.uptoBulk e<=Rows.uptoBulk d∧Q e x:=by
 rcases h with ⟨rfl,rfl⟩ | ⟨elems,oI,rfl,hl,aJ⟩
 ·exact⟨by simp,fun x J=>by cases J⟩
 ·refine⟨?_,fun x J=>?_⟩
  ·have:=alf elems
   simp only[Rows.uptoBulk];omega
  ·obtain⟨i,hi,rfl⟩:=List.getElem_of_mem J;obtain⟨d,U,kW⟩:=aJ i _ (ct hi)
   have:=abV (bn U)
   exact⟨d,by simp only[Rows.uptoBulk];omega,kW⟩
theorem abA {H:Type} {d:DataW H} {l:List (DataW H)} (h:d∈l):Rows.uptoBulk d<=Rows.uptoBulk (DataW.agg l):=by
 have:=abV h
 simp only[Rows.uptoBulk];omega
section
variable {H:Type} {enc:TypeId×Value->H} {w:World} {jI:Nat} {spare:Nat->Bool} {qR:Bool} {fuel:Nat}
theorem b3:Tryz.prog.bytesOf 3=8:=by kernel_rfl
theorem akM:Tryz.prog.bytesOf 54=48:=by kernel_rfl
theorem akN:Tryz.prog.bytesOf 56=24:=by kernel_rfl
theorem akO:Tryz.prog.bytesOf 60=16:=by kernel_rfl
theorem akP:Tryz.prog.bytesOf 64=32:=by kernel_rfl
theorem SN {n:Int} (h:(Lit.int .u64 n).wf=true):0<=n∧n<18446744073709551616:=by
 have F:IntKind.u64.min=0:=rfl;have O:IntKind.u64.max=18446744073709551615:=rfl;simp[Lit.wf] at h;omega
theorem WY {cs:List Value} {y:DataW H×List MemPlace} (h:DataW.trod enc Tryz.prog w jI spare qR fuel 3 cs=some y):∃x:Int,cs=j4 x∧True:=by
 obtain⟨n,ar,-,-⟩:=DataW.trod_int Tryz.underlying3 h;exact⟨n,ar,trivial⟩
theorem aq6 {cs:List Value} {y:DataW H×List MemPlace} (h:DataW.trod enc Tryz.prog w jI spare qR fuel 60 cs=some y):∃x:hf,cs=x.cells∧True:=by
 obtain⟨ol,m,rfl,J,aU,DR,kY⟩:=DataW.trod_struct Tryz.underlying60 h;rw[abZ] at aU
 match cs,aU,ol,DR,J,kY with
 | [m3,k1],_,[zI,qa],_,_,kY =>
  have ko:=kY 0 _ rfl;obtain⟨n0,nJ,-,YD⟩:=DataW.trod_int Tryz.underlying3 (show DataW.trod _ Tryz.prog _ _ _ _ _ 3 _=some zI from ko);simp[c3] at nJ;have bp:=kY 1 _ rfl;obtain⟨n1,d1,-,SL⟩:=DataW.trod_int Tryz.underlying3 (show DataW.trod _ Tryz.prog _ _ _ _ _ 3 _=some qa from bp);simp[c3] at d1;exact⟨⟨n0,n1⟩,by simp[hf.cells, *],trivial⟩
theorem awD {cs:List Value} {y:DataW H×List MemPlace} (h:DataW.trod enc Tryz.prog w jI spare qR fuel 64 cs=some y):∃x:jz,cs=x.cells∧True:=by
 obtain⟨ol,m,rfl,J,aU,DR,kY⟩:=DataW.trod_struct Tryz.underlying64 h;rw[ab0] at aU
 match cs,aU,ol,DR,J,kY with
 | [m3,k1,k2,k3],_,[zI,qa,mB,qc],_,_,kY =>
  have ko:=kY 0 _ rfl;obtain⟨n0,nJ,-,YD⟩:=DataW.trod_int Tryz.underlying3 (show DataW.trod _ Tryz.prog _ _ _ _ _ 3 _=some zI from ko);simp[c3] at nJ;have bp:=kY 1 _ rfl;obtain⟨n1,d1,-,SL⟩:=DataW.trod_int Tryz.underlying3 (show DataW.trod _ Tryz.prog _ _ _ _ _ 3 _=some qa from bp);simp[c3] at d1;have aS:=kY 2 _ rfl;obtain⟨mv,d2,-,SM⟩:=DataW.trod_int Tryz.underlying3 (show DataW.trod _ Tryz.prog _ _ _ _ _ 3 _=some mB from aS);simp[c3] at d2;have bM:=kY 3 _ rfl;obtain⟨og,qP,-,aAx⟩:=DataW.trod_int Tryz.underlying3 (show DataW.trod _ Tryz.prog _ _ _ _ _ 3 _=some qc from bM);simp[c3] at qP;exact⟨⟨n0,n1,mv,og⟩,by simp[jz.cells, *],trivial⟩
theorem at2 {cs:List Value} {y:DataW H×List MemPlace} (h:DataW.trod enc Tryz.prog w jI spare qR fuel 56 cs=some y):∃x:l4,cs=x.cells∧(0<=x.init∧x.init<18446744073709551616):=by
 obtain⟨ol,m,rfl,J,aU,DR,kY⟩:=DataW.trod_struct Tryz.underlying56 h;rw[abY] at aU
 match cs,aU,ol,DR,J,kY with
 | [m3,k1,k2],_,[zI,qa,mB],_,_,kY =>
  have ko:=kY 0 _ rfl;obtain⟨n0,nJ,-,YD⟩:=DataW.trod_int Tryz.underlying3 (show DataW.trod _ Tryz.prog _ _ _ _ _ 3 _=some zI from ko);simp[c3] at nJ;have bp:=kY 1 _ rfl;obtain⟨n1,d1,-,SL⟩:=DataW.trod_int Tryz.underlying32 (show DataW.trod _ Tryz.prog _ _ _ _ _ 32 _=some qa from bp);simp[abW] at d1;have aS:=kY 2 _ rfl;obtain⟨mv,d2,-,SM⟩:=DataW.trod_int Tryz.underlying3 (show DataW.trod _ Tryz.prog _ _ _ _ _ 3 _=some mB from aS);simp[c3] at d2;exact⟨⟨n0,n1,mv⟩,by simp[l4.cells, *],SN SL⟩
theorem DW {α:Type} {Q:DataW H->α->Prop} {t e:TypeId} {d:DataW H} {l:List α} (eg:Tryz.prog.underlying t=some (.slice e)) (D:8<=Tryz.prog.bytesOf e) (ah:s8 t d) (h:(d = .nil∧l=[])∨∃elems oI,d = .slice elems oI∧elems.length=l.length∧∀(i:Nat) (x:α),l[i]?=some x->∃d,elems[i]?=some d∧Q d x) :
  l.length<cd∧∀x,x∈l->∃d,s8 e d∧Q d x:=by
 rcases h with ⟨rfl,rfl⟩ | ⟨elems,oI,rfl,hl,aJ⟩
 ·exact⟨by simp[cd],fun x J=>by simp at J⟩
 ·have kZ:=acp eg ah;refine⟨?_,fun x J=>?_⟩
  ·have F:=kZ.1;have O:l.length*8<=(elems.length+oI.length)*Tryz.prog.bytesOf e:=by
    rw[<-hl];exact Nat.mul_le_mul (by omega) D
   simp only[reachBytes] at F;simp only[cd];omega
  ·obtain⟨i,hi,rfl⟩:=List.getElem_of_mem J;obtain⟨d,U,kW⟩:=aJ i _ (ct hi);exact⟨d,kZ.2 i d U,kW⟩
theorem ar6 {cs:List Value} {y:DataW H×List MemPlace} (h:DataW.trod enc Tryz.prog w jI spare qR fuel 54 cs=some y):∃x:eO,cs=x.cells∧(cm w.heap.size w x.aa 1 (x.args.map j4)∧0<=x.num∧x.num<18446744073709551616∧(s8 54 y.1->x.args.length<cd)∧x.args.length<=Rows.uptoBulk y.1):=by
 obtain⟨ol,m,rfl,J,aU,DR,kY⟩:=DataW.trod_struct Tryz.underlying54 h;rw[abX] at aU
 match cs,aU,ol,DR,J,kY with
 | [m3,k1,k2,k3],_,[zI,qa,mB,qc],_,J,kY =>
  have ko:=kY 0 _ rfl;obtain⟨n0,nJ,-,YD⟩:=DataW.trod_int Tryz.underlying3 (show DataW.trod _ Tryz.prog _ _ _ _ _ 3 _=some zI from ko);simp[c3] at nJ;have bp:=kY 1 _ rfl;obtain⟨n1,d1,-,SL⟩:=DataW.trod_int Tryz.underlying3 (show DataW.trod _ Tryz.prog _ _ _ _ _ 3 _=some qa from bp);simp[c3] at d1;have aS:=kY 2 _ rfl;obtain⟨mv,d2,-,SM⟩:=DataW.trod_int Tryz.underlying32 (show DataW.trod _ Tryz.prog _ _ _ _ _ 32 _=some mB from aS);simp[abW] at d2;have bM:=kY 3 _ rfl;have UD:DataW.trod enc Tryz.prog w jI spare qR m 22 [k3]=some qc:=by simpa[ali] using bM
  obtain⟨a,c,l,rfl,ak,U⟩:=open_row j4 (fun _ _=>True) Tryz.underlying22 c3 (by decide) (fun fuel cs y h=>WY h) UD;refine⟨⟨n0,n1,mv,l,a,c⟩,by simp[eO.cells, *],ak,(SN SM).1,(SN SM).2,fun ah=>?_,?_⟩
  ·rw[J] at ah;exact(DW Tryz.underlying22 (by rw[b3];decide) (HS Tryz.underlying54 ah (i:=3) rfl rfl) U).1
  ·rw[J];have F:=(Gl U).1;have O:Rows.uptoBulk qc.1<=Rows.uptoBulk (DataW.agg ([zI,qa,mB,qc].map Prod.fst)):=abA (by simp);exact bL F O
def abg (n:Nat) (N:aR):Prop:=N.ins.length<=n∧N.regs.length<=n∧N.mems.length<=n∧N.wrs.length<=n∧N.outs.length<=n∧N.nodes.length<=n∧∀d,d∈N.nodes->d.args.length<=n
theorem atu {y:DataW H×List MemPlace} {cs:List Value} (h:DataW.trod enc Tryz.prog w jI spare qR fuel 28 cs=some y) (ah:s8 28 y.1):∃S N,cs=(dp.cells S N).toList∧eM w.heap.size w S N∧abg (Rows.uptoBulk y.1) N:=by
 obtain⟨ol,m,rfl,J,aU,DR,kY⟩:=DataW.trod_struct Tryz.underlying28 h;rw[show Tryz.prog.cellsOf 28=6 by kernel_rfl] at aU
 match cs,aU,ol,DR,J,kY with
 | [m3,k1,k2,k3,DU,k5],_,[zI,qa,mB,qc,GJ,LL],_,J,kY =>
  rw[J] at ah;have ko:=kY 0 _ rfl;have al2:DataW.trod enc Tryz.prog w jI spare qR m 22 [m3]=some zI:=by
   have ar:Tryz.prog.cellsOf 22=1:=by kernel_rfl
   simpa[ar] using ko
  obtain⟨a0,u0,eW,rfl,Wo,VF⟩:=open_row j4 (fun _ _=>True) Tryz.underlying22 c3 (by decide) (fun fuel cs y h=>WY h) al2;have kT:=DW Tryz.underlying22 (by rw[b3];decide) (HS Tryz.underlying28 ah (i:=0) rfl rfl) VF;have bp:=kY 1 _ rfl;have al3:DataW.trod enc Tryz.prog w jI spare qR m 23 [k1]=some qa:=by
   have ar:Tryz.prog.cellsOf 23=1:=by kernel_rfl
   simpa[ar] using bp
  obtain⟨a1,u1,kD,rfl,Io,FH⟩:=open_row eO.cells (fun d x=>cm w.heap.size w x.aa 1 (x.args.map j4)∧0<=x.num∧x.num<18446744073709551616∧(s8 54 d->x.args.length<cd)∧x.args.length<=Rows.uptoBulk d) Tryz.underlying23 abX (by decide) (fun fuel cs y h=>ar6 h) al3;have bY:=DW Tryz.underlying23 (by rw[akM];decide) (HS Tryz.underlying28 ah (i:=1) rfl rfl) FH;have aS:=kY 2 _ rfl;have al4:DataW.trod enc Tryz.prog w jI spare qR m 24 [k2]=some mB:=by
   have ar:Tryz.prog.cellsOf 24=1:=by kernel_rfl
   simpa[ar] using aS
  obtain⟨a2,u2,lI,rfl,FY,zg⟩:=open_row l4.cells (fun _ x=>0<=x.init∧x.init<18446744073709551616) Tryz.underlying24 abY (by decide) (fun fuel cs y h=>at2 h) al4;have bK:=DW Tryz.underlying24 (by rw[akN];decide) (HS Tryz.underlying28 ah (i:=2) rfl rfl) zg;have bM:=kY 3 _ rfl;have UD:DataW.trod enc Tryz.prog w jI spare qR m 25 [k3]=some qc:=by
   have ar:Tryz.prog.cellsOf 25=1:=by kernel_rfl
   simpa[ar] using bM
  obtain⟨a3,u3,zx,rfl,Rr,ac9⟩:=open_row hf.cells (fun _ _=>True) Tryz.underlying25 abZ (by decide) (fun fuel cs y h=>aq6 h) UD;have h7:=DW Tryz.underlying25 (by rw[akO];decide) (HS Tryz.underlying28 ah (i:=3) rfl rfl) ac9;have lg:=kY 4 _ rfl;have al5:DataW.trod enc Tryz.prog w jI spare qR m 26 [DU]=some GJ:=by
   have ar:Tryz.prog.cellsOf 26=1:=by kernel_rfl
   simpa[ar] using lg
  obtain⟨a4,u4,KY,rfl,Rs,ada⟩:=open_row jz.cells (fun _ _=>True) Tryz.underlying26 ab0 (by decide) (fun fuel cs y h=>awD h) al5;have lS:=DW Tryz.underlying26 (by rw[akP];decide) (HS Tryz.underlying28 ah (i:=4) rfl rfl) ada;have l8:=kY 5 _ rfl;have al6:DataW.trod enc Tryz.prog w jI spare qR m 22 [k5]=some LL:=by
   have ar:Tryz.prog.cellsOf 22=1:=by kernel_rfl
   simpa[ar] using l8
  obtain⟨a5,u5,KZ,rfl,ao8,adb⟩:=open_row j4 (fun _ _=>True) Tryz.underlying22 c3 (by decide) (fun fuel cs y h=>WY h) al6;have mW:=DW Tryz.underlying22 (by rw[b3];decide) (HS Tryz.underlying28 ah (i:=5) rfl rfl) adb;refine⟨⟨a0,u0,a1,u1,a2,u2,a3,u3,a4,u4,a5,u5⟩,⟨eW,kD,lI,zx,KY,KZ⟩,rfl,⟨Wo,Io,FY,Rr,Rs,ao8,fun d U=>?_,fun d U=>?_,kT.1,bY.1,bK.1,h7.1,lS.1,mW.1⟩,?_⟩
  ·obtain⟨x,yB,cy,eX,fH,h3,-⟩:=bY.2 d U;exact⟨cy,eX,fH,h3 yB⟩
  ·obtain⟨x,-,cy,eX⟩:=bK.2 d U;exact⟨cy,eX⟩
  ·rw[J];have ae:∀z,z∈[zI.1,qa.1,mB.1,qc.1,GJ.1,LL.1]->Rows.uptoBulk z<=Rows.uptoBulk (DataW.agg ([zI,qa,mB,qc,GJ,LL].map Prod.fst)):=fun z ao=>abA (by simpa using ao)
   refine⟨bL (Gl VF).1 (ae _ (by simp)),bL (Gl zg).1 (ae _ (by simp)),bL (Gl ac9).1 (ae _ (by simp)),bL (Gl ada).1 (ae _ (by simp)),bL (Gl adb).1 (ae _ (by simp)),bL (Gl FH).1 (ae _ (by simp)),fun d U=>?_⟩;obtain⟨e,ay,-,-,-,-,g5⟩:=(Gl FH).2 d U;exact bL g5 (bL ay (ae _ (by simp)))
end
theorem arI {H:Type} {enc:TypeId×Value->H} {I:World} {jI:Nat} {v:Value} {d:DataW H} {p:List MemPlace} (L:Value.okWide Tryz.prog I .any jI 28 v) (h:DataW.Trod enc Tryz.prog I 0 (fun _=>true) true 28 v d p) (ah:s8 28 d) :
  ∃S N,v = .agg (dp.cells S N)∧eM I.heap.size I S N∧abg (Rows.uptoBulk d) N:=by
 obtain⟨cs,rfl,_⟩:=okWide_struct Tryz.underlying28 L;obtain⟨fuel,eg⟩:=h;obtain⟨S,N,ar,ag⟩:=atu eg ah;refine⟨S,N,?_,ag⟩
 have:cs.toList=(dp.cells S N).toList:=by simpa[Value.cells] using ar
 rw[Array.toList_inj.1 this]
section
variable {H:Type} {enc:TypeId×Value->H} {w:World} {jI:Nat} {spare:Nat->Bool} {qR:Bool} {fuel:Nat}
theorem aln:Tryz.prog.cellsOf 33=1:=by kernel_rfl
theorem abJ:Tryz.prog.bytesOf 33=24:=by kernel_rfl
theorem alo:Tryz.prog.cellsOf 32=1:=by kernel_rfl
theorem akT:Tryz.prog.bytesOf 32=8:=by kernel_rfl
theorem aws {cs:List Value} {y:DataW H×List MemPlace} (h:DataW.trod enc Tryz.prog w jI spare qR fuel 32 cs=some y):∃x:Nat,cs=k6 x∧x<18446744073709551616:=by
 obtain⟨n,ar,-,awd⟩:=DataW.trod_int Tryz.underlying32 h;have aw:=SN awd;refine⟨n.toNat,?_,by omega⟩;rw[ar,k6,Int.toNat_of_nonneg aw.1]
theorem avi {cs:List Value} {y:DataW H×List MemPlace} (h:DataW.trod enc Tryz.prog w jI spare qR fuel 33 cs=some y):∃x:g2,cs=x.cells∧(cm w.heap.size w x.a 1 (x.l.map k6)∧(∀n,n∈x.l->n<18446744073709551616)∧(s8 33 y.1->x.l.length<cd)):=by
 obtain⟨v,rfl⟩:∃v,cs=[v]:=by
  rcases DataW.trod_slice Tryz.underlying33 h with ⟨rfl,_⟩ | ⟨a,len,cap,elems,oH,n,_,rfl,_⟩
  ·exact⟨_,rfl⟩
  ·exact⟨_,rfl⟩
 obtain⟨a,c,l,rfl,ak,U⟩:=open_row k6 (fun _ n=>n<18446744073709551616) Tryz.underlying33 alo (by decide) (fun fuel cs y h=>aws h) h;refine⟨⟨a,c,l⟩,rfl,ak,?_,fun ah=>(DW Tryz.underlying33 (by rw[akT];decide) ah U).1⟩;rcases U with ⟨_,rfl⟩ | ⟨elems,oI,_,_,aJ⟩
 ·intro t eg;cases eg
 ·intro t eg;obtain⟨i,hi,rfl⟩:=List.getElem_of_mem eg;obtain⟨d,_,kW⟩:=aJ i _ (ct hi);exact kW
theorem atv {y:DataW H×List MemPlace} {v:Value} (h:DataW.trod enc Tryz.prog w jI spare qR fuel 29 [v]=some y) (ah:s8 29 y.1):∃a c dq,v = .slice a (List.length dq) c∧z9 w.heap.size w a dq:=by
 obtain⟨a,c,l,rfl,ak,U⟩:=open_row g2.cells (fun d x=>cm w.heap.size w x.a 1 (x.l.map k6)∧(∀n,n∈x.l->n<18446744073709551616)∧(s8 33 d->x.l.length<cd)) Tryz.underlying29 aln (by decide) (fun fuel cs y h=>avi h) h;have g:=DW Tryz.underlying29 (by rw[abJ];decide) ah U;refine⟨a,c,l,rfl,ak,fun t eg=>?_,?_⟩
 ·obtain⟨d,qr,cy,eX,fH⟩:=g.2 t eg;exact⟨cy,fH qr,eX⟩
 ·rcases U with ⟨_,rfl⟩ | ⟨elems,oI,ay,hl,_⟩
  ·simp
  ·rw[ay] at ah;have F:=(acp Tryz.underlying29 ah).1;rw[abJ] at F;simp only[reachBytes] at F;omega
end
theorem avk {H:Type} {enc:TypeId×Value->H} {I:World} {v:Value} {d:DataW H} {p:List MemPlace} (h:DataW.Trod enc Tryz.prog I 0 (fun _=>true) true 29 v d p) (ah:s8 29 d) (L:v.cells.toList=[v]) :
  ∃a c dq,v = .slice a (List.length dq) c∧z9 I.heap.size I a dq:=by
 obtain⟨fuel,eg⟩:=h;rw[L] at eg;exact atv eg ah
end Go.Proofs.YtcbcenfjigcfkaaGreatDoor
