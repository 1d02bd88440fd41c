import Derived.Test.YtcbcenfjigcfkaaGreatDoorK01
import Derived.Deep.RegionHeldLaw
set_option maxRecDepth 100000
set_option maxHeartbeats 40000000
namespace Go.Proofs.YtcbcenfjigcfkaaGreatDoor
open Go.RowKit
variable {B w:World} {E M first:Nat} {a b kF mu:Int}
structure qg (C:Nat) (w:World) (E M first:Nat) (hs:List Z) (u:Value):Prop where
 c0:w.cell? ⟨E,0,none⟩=some (.int .i64 first)
 c1:w.cell? ⟨E,1,none⟩=some u
 c2:w.cell? ⟨E,2,none⟩=some (.map (some M))
 ow:w.ownsRow C 79 2 u hs.length (hs.flatMap Z.cells)
 kn:yn w M first hs
 fr:∀j,w.frozen? ⟨E,j,none⟩=false
 ge:C<=w.heap.size
 lt:E<w.heap.size
 lm:M<w.heap.size
 ne:E≠M
 ng:u.ownBlock≠some E
 nm:u.ownBlock≠some M
theorem yn.to {hs:List Z} (h:yn w M first hs) (D:B.heap[M]?=w.heap[M]?):yn B M first hs:=by
 obtain⟨bo,BQ,F,O,aW⟩:=h;exact⟨bo,BQ,D.trans F,O,aW⟩
theorem qg.to {C:Nat} {hs:List Z} {u:Value} (h:qg C w E M first hs u) (D:V w B):qg C B E M first hs u :=
 ⟨(D.cell (p:=⟨E,0,none⟩) h.lt).trans h.c0,(D.cell (p:=⟨E,1,none⟩) h.lt).trans h.c1,(D.cell (p:=⟨E,2,none⟩) h.lt).trans h.c2,mx h.ow D,h.kn.to (D.block M h.lm),fun j=>(D.frozen (p:=⟨E,j,none⟩) h.lt).trans (h.fr j),bL h.ge D.size,bk h.lt D.size,bk h.lm D.size,h.ne,h.ng,h.nm⟩
def Jv (w B:World) (E M:Nat) (row:Option Nat):Prop:=∃w1 w2,w.grownBy w1 row∧w1.grownBy w2 (some E)∧w2.grownBy B (some M)
theorem Jv.of {row:Option Nat} (h:w.grownBy B row):Jv w B E M row:=⟨B,B,h,qQ _ _,qQ _ _⟩
theorem apW:(Tryz.prog.info? 79).map (fun i=>(i.zero,i.size,i.bytes))=some (some (.agg #[.int .i64 0,.int .i64 0]),2,16):=by kernel_rfl
theorem aeD:∃i,Tryz.prog.info? 79=some i∧i.zero=some (.agg #[.int .i64 0,.int .i64 0])∧i.size=2∧i.bytes=16:=by
 have h:=apW;cases hi:Tryz.prog.info? 79 with
 | none=>rw[hi] at h;cases h
 | some i=>rw[hi] at h;simp at h;exact⟨i,rfl,h.1,h.2.1,h.2.2⟩
theorem XO {Y e size n:Nat} {v:Value} {xs:List Value} (h:w.ownsRow Y e size v n xs):∃a c,v = .slice a n c:=by
 rcases h.2 with ⟨rfl,rfl⟩ | ⟨g,cap,_,rfl,_⟩
 ·exact⟨_,_,rfl⟩
 ·exact⟨_,_,rfl⟩
theorem agd (w:World) (b j:Nat) (v:Value):w.grownBy (w.setCell ⟨b,j,none⟩ v) (some b):=by
 refine⟨rfl,rfl,rfl,by simp[World.setCell],fun k X cb=>?_⟩;have VW:k≠b:=fun e=>cb (by rw[e])
 simp[World.setCell,Array.getElem?_modify,Ne.symm VW]
theorem afR {b:Nat} {bo:Array MapEntry} {pk:Nat} (hT:Obj) (h:w.heap[b]?=some (.map bo pk)):w.grownBy (ChangeMaps.setBlock w b hT) (some b) :=
 ⟨rfl,rfl,rfl,by simp[ChangeMaps.setBlock],fun k _ X=>ChangeMaps.heap_setBlock_other h _ (fun e=>X (by rw[e]))⟩
theorem y8 (w:World) (o:Obj) (row:Option Nat):w.grownBy (w.alloc o).drew row:=⟨rfl,rfl,rfl,by simp,fun k X _=>heap_alloc_old w o X⟩
theorem Ag (w:World) (row:Option Nat):w.grownBy w.drew row:=⟨rfl,rfl,rfl,aL _,fun _ _ _=>rfl⟩
theorem P4 {hs:List Z} (bp:max a b=mu) (aS:min a b=kF) (h:kF=0∨mu=bu kF):bE first hs a b=(hs,0):=by
 unfold bE;rw[bp,aS,if_pos h]
theorem Ui {hs:List Z} (bp:max a b=mu) (aS:min a b=kF) (h:¬(kF=0∨mu=bu kF)) (O:kF=1∨mu=kF):bE first hs a b=(hs,mu):=by
 unfold bE;rw[bp,aS,if_neg h,if_pos O]
theorem abB {hs:List Z} (bp:max a b=mu) (aS:min a b=kF) (h:¬(kF=0∨mu=bu kF)) (O:¬(kF=1∨mu=kF)) {i:Nat} (ah:pm hs mu kF=some i):bE first hs a b=(hs,2*((first:Int)+(i:Int))):=by
 unfold bE;rw[bp,aS,if_neg h,if_neg O,ah]
theorem Uh {hs:List Z} (bp:max a b=mu) (aS:min a b=kF) (h:¬(kF=0∨mu=bu kF)) (O:¬(kF=1∨mu=kF)) (ah:pm hs mu kF=none):bE first hs a b=(hs++[⟨mu,kF⟩],2*((first:Int)+(hs.length:Int))):=by
 unfold bE;rw[bp,aS,if_neg h,if_neg O,ah]
def PS (u g7:Value) (n:Nat):Prop:=∀x,g7.ownBlock=some x->u.ownBlock=some x∨n<=x
theorem qg.same {C:Nat} {hs:List Z} {u:Value} (h:qg C w E M first hs u) (n:Nat) (D:V w B):(∃g7,qg C B E M first hs g7∧PS u g7 n)∧Jv w B E M u.ownBlock :=
 ⟨⟨u,h.to D,fun _ J=> .inl J⟩,.of ⟨D.os,D.tape,D.output,D.size,fun k X _=>D.block k X⟩⟩
theorem abD (C:Nat) (w:World) (E M first:Nat) (hs:List Z) (u:Value) (n:Nat) (ag:n<=w.heap.size) (h:qg C w E M first hs u) (H:bI first hs) (aU:first+hs.length<=134217728) (x y a b:Int) (IA:(if x<y then y else x)=a) (lH:(if y<x then y else x)=b) (ad:0<=a∧a<2*((first:Int)+(hs.length:Int))) (D:0<=b∧b<2*((first:Int)+(hs.length:Int))) (h2:(bE first hs x y).1.length<=1048576) (oa:b<a) :
  Calls Tryz.prog 90 #[.pointer (some ⟨E,0,none⟩),.int .i64 x,.int .i64 y] w fun e B=>e = .returned (.int .i64 (bE first hs x y).2)∧(∃g7,qg C B E M first (bE first hs x y).1 g7∧PS u g7 n)∧Jv w B E M u.ownBlock:=by
 change Hid _ at h2
 have cc:=K h;have z5:Hid (∀w,Calls Tryz.prog 97 #[.int .i64 b] w fun e B=>e = .returned (.int .i64 (bu b))∧B=w):=fun w=>K6 b (by omega) (by omega) w
 have ys:Hid (max x y=a):=by show _=_;rw[<-IA];split <;> omega
 have yr:Hid (min x y=b):=by show _=_;rw[<-lH];split <;> omega
 by_cases aI:b=0
 ·rw[P4 ys yr (.inl aI)];subst aI;go_enter Tryz.func90,Tryz.ntmps90
  go_wp2;go_quiet (fail)
  go_wp2;refine bodyPost_ret (v:= .int .i64 0) (by simp[results,Tryz.results90,go_sem]) rfl ⟨rfl,cc.same n ?_⟩;exact Below.drewN ((ax _ _).alloc (aL _) _) _
 by_cases F:a=bu b
 ·rw[P4 ys yr (.inr F)];have Qy:(a==bu b)=true:=by simpa using F
  go_enter Tryz.func90,Tryz.ntmps90
  go_wp2;go_quiet ((go_at_call 97;exact Calls.quiet_of_same (z5 _)))
  go_wp2;refine bodyPost_ret (v:= .int .i64 0) (by simp[results,Tryz.results90,go_sem]) rfl ⟨rfl,cc.same n ?_⟩;exact Below.drewN ((ax _ _).alloc (aL _) _) _
 have Qy:(a==bu b)=false:=by simpa using F
 have kC:¬(b=0∨a=bu b):=fun e=>e.elim aI F
 by_cases O:b=1
 ·rw[Ui ys yr kC (.inl O)];clear ys yr kC aI;subst O;go_enter Tryz.func90,Tryz.ntmps90
  go_wp2;go_quiet ((go_at_call 97;exact Calls.quiet_of_same (z5 _)))
  go_wp2;refine bodyPost_ret (v:= .int .i64 a) (by simp[results,Tryz.results90,go_sem]) rfl ⟨rfl,cc.same n ?_⟩;exact Below.drewN ((ax _ _).alloc (aL _) _) _
 have aW:¬a=b:=by omega
 have j3:¬(b=1∨a=b):=fun e=>e.elim O aW
 have U1:(b==1)=false:=by simpa using O
 have U3:(a==b)=false:=by simpa using aW
 have lU:=h.c2;have aB:=h.lt;have PL:Hid (∀n,(pm hs a b=none∧(Instr.lookup 110 (.map (some M)) (zw a b) true).run Tryz.prog ((w.alloc (.cells #[.int .i64 a,.int .i64 b] 79)).drewN n) = .ok (.tuple #[.int .i64 0,.bool false]) ((w.alloc (.cells #[.int .i64 a,.int .i64 b] 79)).drewN n)) ∨
  ∃i,pm hs a b=some i∧(Instr.lookup 110 (.map (some M)) (zw a b) true).run Tryz.prog ((w.alloc (.cells #[.int .i64 a,.int .i64 b] 79)).drewN n) = .ok (.tuple #[.int .i64 (2*((first:Int)+(i:Int))),.bool true]) ((w.alloc (.cells #[.int .i64 a,.int .i64 b] 79)).drewN n)):=fun n =>
  W9 H (by omega) ((h.to (Below.drewN ((ax _ _).alloc (aL _) _) n)).kn) a b (by omega) (by omega)
 cases ah:pm hs a b with
 | some i =>
  rw[abB ys yr kC j3 ah];have Hp:∀n,(Instr.lookup 110 (.map (some M)) (.agg #[.int .i64 a,.int .i64 b]) true).run Tryz.prog ((w.alloc (.cells #[.int .i64 a,.int .i64 b] 79)).drewN n) = .ok (.tuple #[.int .i64 (2*((first:Int)+(i:Int))),.bool true]) ((w.alloc (.cells #[.int .i64 a,.int .i64 b] 79)).drewN n):=fun n=>by
   rcases PL n with ⟨e,_⟩ | ⟨j,e,ak⟩
   ·rw[ah] at e;cases e
   ·rw[ah] at e;cases e;exact ak
  clear ys yr kC PL h H ah j3;go_enter Tryz.func90,Tryz.ntmps90
  go_wp2;go_quiet ((go_at_call 97;exact Calls.quiet_of_same (z5 _)))
  go_wp2;go_quiet (fail)
  go_wp2;refine bodyPost_ret (v:= .int .i64 (2*((first:Int)+(i:Int)))) (by simp[results,Tryz.results90,go_sem]) rfl ⟨rfl,cc.same n ?_⟩;exact Below.drewN ((ax _ _).alloc (aL _) _) _
 | none =>
  have aB:hs.length<1048576:=by
   have aJ:=h2.out;rw[Uh ys yr kC j3 ah] at aJ;simp at aJ;omega
  rw[Uh ys yr kC j3 ah];have Hp:∀n,(Instr.lookup 110 (.map (some M)) (.agg #[.int .i64 a,.int .i64 b]) true).run Tryz.prog ((w.alloc (.cells #[.int .i64 a,.int .i64 b] 79)).drewN n) = .ok (.tuple #[.int .i64 0,.bool false]) ((w.alloc (.cells #[.int .i64 a,.int .i64 b] 79)).drewN n):=fun n=>by
   rcases PL n with ⟨e,ak⟩ | ⟨j,e,ak⟩
   ·exact ak
   ·rw[ah] at e;cases e
  obtain⟨yS,yT,bb⟩:=XO h.ow;subst bb;obtain⟨ev,eB,fb,em,b8⟩:=aeD
  change Hid _ at eB fb em b8
  have rA:=h.c0;have lF:=h.c1;have pq:((hs.length:Int)==1048576)=false:=by simp;omega
  have w1:=bF ((first:Int)+(hs.length:Int));have w2:=bF (2*((first:Int)+(hs.length:Int)))
  change Hid _ at H ah
  clear ys yr kC PL h j3;go_enter Tryz.func90,Tryz.ntmps90
  go_wp2;go_quiet ((go_at_call 97;exact Calls.quiet_of_same (z5 _)))
  go_wp2;go_quiet (fail)
  go_wp2;go_quiet (fail)
  go_wp2;clear Hp;generalize Nh:World.drewN _ _=wr;have tm:V w wr:=by rw[<-Nh];exact Below.drewN (Below.drewN ((ax _ _).alloc (aL _) _) _) _
  have jr:=K (cc.to tm);have Po:Hid (w.grownBy wr (Value.slice yS hs.length yT).ownBlock):=⟨tm.os,tm.tape,tm.output,tm.size,fun k X _=>tm.block k X⟩
  have m3:wr.cell? ⟨w.heap.size,0,none⟩=some (.int .i64 a):=by rw[<-Nh];exact ja rfl
  have k1:wr.cell? ⟨w.heap.size,1,none⟩=some (.int .i64 b):=by rw[<-Nh];exact ja rfl
  have NE:w.heap.size<wr.heap.size:=by rw[<-Nh];simp
  have po:E≠w.heap.size:=by omega
  have NB:w.heap.size≠M:=by have:=cc.lm;omega
  have adu:∀x,(Value.slice yS hs.length yT).ownBlock=some x->x<w.heap.size:=fun x J=>(cc.ow.lt x J).2
  have zd:C<=wr.heap.size:=by have:=cc.ge;omega
  clear Nh tm aB;generalize w.heap.size=kb at *;have aN:Hid (∀B,wr.grownBy B (Value.slice yS hs.length yT).ownBlock->B.cell? ⟨kb,0,none⟩=some (.int .i64 a)∧B.cell? ⟨kb,1,none⟩=some (.int .i64 b)):=fun B af=>⟨(af.cell_far ⟨kb,0,none⟩ NE (fun e=>Nat.lt_irrefl _ (adu kb e.symm))).trans m3,(af.cell_far ⟨kb,1,none⟩ NE (fun e=>Nat.lt_irrefl _ (adu kb e.symm))).trans k1⟩
  have l2:Hid (∀B,wr.grownBy B (Value.slice yS hs.length yT).ownBlock->B.cell? ⟨E,1,none⟩=some (.slice yS hs.length yT)∧B.frozen? ⟨E,1,none⟩=false):=fun B af=>⟨(af.cell_far ⟨E,1,none⟩ jr.lt (fun e=>jr.ng e.symm)).trans jr.c1,(af.frozen_far ⟨E,1,none⟩ jr.lt (fun e=>jr.ng e.symm)).trans (jr.fr 1)⟩
  have azJ:wr.cell? ⟨E,1,none⟩=some (.slice yS hs.length yT):=jr.c1;have yI:(wr.alloc (.cells #[.int .i64 a,.int .i64 b] 79)).cell? ⟨E,1,none⟩=some (.slice yS hs.length yT):=(l2 _ (y8 _ _ _)).1;have cn:hs.length+1<=maxLen:=by simp only[maxLen];omega
  have cq:(hs.length+1)*16<=140737488355328:=by omega
  have cJ:C<=((wr.alloc (.cells #[.int .i64 a,.int .i64 b] 79)).drew).heap.size:=by simp;omega
  refine mR ?_;refine ih (S:=(fun B=>B.cell? ⟨kb,0,none⟩=some (.int .i64 a)∧B.cell? ⟨kb,1,none⟩=some (.int .i64 b))) (by kernel_rfl) (by(first | assumption | exact⟨m3,k1⟩ | exact aN _ (y8 _ _ _) | exact aN _ (Ag _ _) | exact aN _ (qQ _ _) | exact aN _ (by assumption) | exact⟨(ce _ _ _ _ po).trans (aN _ aZ).1,(ce _ _ _ _ po).trans (aN _ aZ).2⟩)) (fun ii=>?_);refine R 0 ?_;refine R 1 ?_;refine R 2 ?_;refine R 3 ?_;refine R 5 ?_;refine wpAnyH_ready (rs:=[4,6]) (by kernel_rfl) (by simp) ?_;refine j9 (o:=_) rfl (fun aj W=>?_) ?_
  ·(try simp only[bf,bg,bh]);go_simp;refine aQ W (by(first | assumption | exact⟨m3,k1⟩ | exact aN _ (y8 _ _ _) | exact aN _ (Ag _ _) | exact aN _ (qQ _ _) | exact aN _ (by assumption) | exact⟨(ce _ _ _ _ po).trans (aN _ aZ).1,(ce _ _ _ _ po).trans (aN _ aZ).2⟩)) fun Vg=>?_
   clear W aj;refine rd 6 fun aj W=>?_
   (try simp only[bf,bg,bh]);go_simp;refine aQ W (by(first | assumption | exact⟨m3,k1⟩ | exact aN _ (y8 _ _ _) | exact aN _ (Ag _ _) | exact aN _ (qQ _ _) | exact aN _ (by assumption) | exact⟨(ce _ _ _ _ po).trans (aN _ aZ).1,(ce _ _ _ _ po).trans (aN _ aZ).2⟩)) fun Vh=>?_
   clear W aj;refine rd 7 fun aj W=>?_
   refine step_append_lies _ rfl (.tmp 75) (.tmp 77) 36 rfl C 79 ev _ 2 16 Tryz.underlying36 eB fb em b8 rfl (by decide) (.slice yS hs.length yT) hs.length _ rfl (jr.ow.alloc _).drew ⟨wr.heap.size,0,none⟩ 1 1 [.int .i64 a,.int .i64 b] rfl rfl (i5 (h8 _ _)) (by simp[Value.oneCell']) (by decide) cn cq cJ _ rfl ?_;intro bY cap al bc br aO cj;have aZ:=js (y8 _ _ _) br;have f6:=(l2 al aZ).1;have h0:=(l2 al aZ).2;refine aQ W (by(first | assumption | exact⟨m3,k1⟩ | exact aN _ (y8 _ _ _) | exact aN _ (Ag _ _) | exact aN _ (qQ _ _) | exact aN _ (by assumption) | exact⟨(ce _ _ _ _ po).trans (aN _ aZ).1,(ce _ _ _ _ po).trans (aN _ aZ).2⟩)) fun M8=>?_
   clear W aj;refine R 8 ?_;refine R 9 ?_;refine rd 10 fun aj W=>?_
   (try simp only[bf,bg,bh]);go_simp;refine aQ W (by(first | assumption | exact⟨m3,k1⟩ | exact aN _ (y8 _ _ _) | exact aN _ (Ag _ _) | exact aN _ (qQ _ _) | exact aN _ (by assumption) | exact⟨(ce _ _ _ _ po).trans (aN _ aZ).1,(ce _ _ _ _ po).trans (aN _ aZ).2⟩)) fun Vb=>?_
   clear W aj;refine gn (by kernel_rfl) ?_ _;refine j8 ?_;generalize gz:World.setCell al _ _=aH;have n3:aH.cell? ⟨E,1,none⟩=some (.slice (some ⟨bY,0,none⟩) (hs.length+1) cap):=by rw[<-gz];exact on (h:=f6) ..
   have hG:al.grownBy aH (some E):=by rw[<-gz];exact agd _ _ _ _
   have xB:∀j,j≠1->aH.cell? ⟨E,j,none⟩=al.cell? ⟨E,j,none⟩:=fun j aT=>by
    rw[<-gz];exact oL (h:=fun e=>aT (by cases e;rfl)) ..
   have h1:∀j,aH.frozen? ⟨E,j,none⟩=al.frozen? ⟨E,j,none⟩:=fun j=>by rw[<-gz];exact s6 _ _ _ _
   clear gz;have B6:E<wr.heap.size:=jr.lt;have lW:M<wr.heap.size:=jr.lm;have gO:Hid ((Value.slice yS hs.length yT).ownBlock=some bY∨n<=bY):=by
    rcases aO with h | h
    ·exact .inl h
    ·right;simp at h;omega
   have jK:bY≠E∧bY≠M:=by
    rcases aO with h | h
    ·exact⟨fun e=>cc.ng (by rw[h,e]),fun e=>cc.nm (by rw[h,e])⟩
    ·simp at h;omega
   have zm:=aZ.size;have FZ:=hG.size;have HR:∀j,al.cell? ⟨E,j,none⟩=wr.cell? ⟨E,j,none⟩:=fun j=>aZ.cell_far ⟨E,j,none⟩ B6 (fun e=>cc.ng e.symm)
   have M2:∀j,al.frozen? ⟨E,j,none⟩=false:=fun j=>(aZ.frozen_far ⟨E,j,none⟩ B6 (fun e=>cc.ng e.symm)).trans (jr.fr j)
   have hM:aH.ownsRow C 79 2 (.slice (some ⟨bY,0,none⟩) (hs.length+1) cap) (hs++[(⟨a,b⟩:Z)]).length ((hs++[(⟨a,b⟩:Z)]).flatMap Z.cells):=by
    have:=bc.kept hG (.inr (fun e=>jK.1 (by cases e;rfl)))
    rw[s4,jw];exact this
   have IV:aH.cell? ⟨E,2,none⟩=some (.map (some M)):=(xB 2 (by decide)).trans ((HR 2).trans jr.c2);have XG:aH.cell? ⟨E,0,none⟩=some (.int .i64 first):=(xB 0 (by decide)).trans ((HR 0).trans jr.c0);have ID:aH.cell? ⟨kb,0,none⟩=some (.int .i64 a):=(hG.cell_far ⟨kb,0,none⟩ (by show kb<_;omega) (fun e=>po (by cases e;rfl))).trans (aN _ aZ).1;have IE:aH.cell? ⟨kb,1,none⟩=some (.int .i64 b):=(hG.cell_far ⟨kb,1,none⟩ (by show kb<_;omega) (fun e=>po (by cases e;rfl))).trans (aN _ aZ).2;have V2:aH.heap[M]?=wr.heap[M]?:=(hG.block M (by omega) (fun e=>cc.ne (by cases e;rfl))).trans (aZ.block M lW (fun e=>cc.nm e.symm));have Mh:yn aH.drew M first hs:=jr.kn.to V2;obtain⟨dN,NS,B7,amt,alz,xE⟩:=aeV H (by omega) Mh a b (by omega) (by omega) ah.out;obtain⟨ams,aly,NO,_⟩:=id Mh;have uB:aH.grownBy dN (some M):=js (Ag aH (some M)) (by rw[xE];exact afR _ NO);clear xE NO;have Rv:=uB.size;have yx:∀b j,b<aH.heap.size->b≠M->dN.cell? ⟨b,j,none⟩=aH.cell? ⟨b,j,none⟩:=fun b j F O=>uB.cell_far ⟨b,j,none⟩ F (fun e=>O (by cases e;rfl))
   have vu:dN.cell? ⟨E,2,none⟩=some (.map (some M))∧dN.cell? ⟨kb,0,none⟩=some (.int .i64 a)∧dN.cell? ⟨kb,1,none⟩=some (.int .i64 b):=⟨(yx E 2 (by omega) cc.ne).trans IV,(yx kb 0 (by omega) NB).trans ID,(yx kb 1 (by omega) NB).trans IE⟩
   have MR:dN.cell? ⟨E,0,none⟩=some (.int .i64 first):=(yx E 0 (by omega) cc.ne).trans XG;have MS:=(yx E 1 (by omega) cc.ne).trans n3;have Uq:=vu.1;have Ow:=hM.kept uB (.inr (fun e=>jK.2 (by cases e;rfl)));have M1:∀j,dN.frozen? ⟨E,j,none⟩=false:=fun j=>(uB.frozen_far ⟨E,j,none⟩ (by show E<_;omega) (fun e=>cc.ne (by cases e;rfl))).trans ((h1 j).trans (M2 j))
   have ao2:(Instr.mapUpdate 110 (.map (some M)) (.agg #[.int .i64 a,.int .i64 b]) (.int .i64 (2*((first:Int)+(hs.length:Int))))).run Tryz.prog aH.drew = .ok () dN:=NS;clear NS yx HR M2 xB h1 f6 h0
   change Hid _ at MR MS Ow M1 B7
   clear Uq rA lF lU n3 hM;go_wp2;refine mR ?_;refine ih (S:=(fun B=>B.cell? ⟨E,2,none⟩=some (.map (some M))∧B.cell? ⟨kb,0,none⟩=some (.int .i64 a)∧B.cell? ⟨kb,1,none⟩=some (.int .i64 b))) (by kernel_rfl) (by(first | assumption | exact⟨IV,ID,IE⟩ | exact vu)) (fun ans=>?_);refine R 0 ?_;refine R 1 ?_;refine R 2 ?_;refine R 3 ?_;refine R 4 ?_;refine R 5 ?_;refine rd 6 fun aj W=>?_
   (try simp only[bf,bg,bh]);go_simp;refine aQ W (by(first | assumption | exact⟨IV,ID,IE⟩ | exact vu)) fun Vh=>?_
   clear W aj;refine gn (by kernel_rfl) ?_ _;refine j8 ?_;go_wp2;refine bodyPost_ret (v:= .int .i64 (2*((first:Int)+(hs.length:Int)))) (by simp[results,Tryz.results90,go_sem]) rfl ⟨rfl,⟨_,⟨MR,MS.out,vu.1,Ow.out,B7.out,M1.out,by omega,by omega,by omega,cc.ne,fun e=>jK.1 (by cases e;rfl),fun e=>jK.2 (by cases e;rfl)⟩,fun x J=>by cases J;exact gO⟩,⟨al,aH,js Po aZ,hG,uB⟩⟩
  refine j9 (o:=_) rfl (fun aj W=>?_) q6;(try simp only[bf,bg,bh]);go_simp;refine aQ W (by(first | assumption | exact⟨m3,k1⟩ | exact aN _ (y8 _ _ _) | exact aN _ (Ag _ _) | exact aN _ (qQ _ _) | exact aN _ (by assumption) | exact⟨(ce _ _ _ _ po).trans (aN _ aZ).1,(ce _ _ _ _ po).trans (aN _ aZ).2⟩)) fun Vh=>?_
  clear W aj;refine rd 4 fun aj W=>?_
  (try simp only[bf,bg,bh]);go_simp;refine aQ W (by(first | assumption | exact⟨m3,k1⟩ | exact aN _ (y8 _ _ _) | exact aN _ (Ag _ _) | exact aN _ (qQ _ _) | exact aN _ (by assumption) | exact⟨(ce _ _ _ _ po).trans (aN _ aZ).1,(ce _ _ _ _ po).trans (aN _ aZ).2⟩)) fun Vg=>?_
  clear W aj;refine rd 7 fun aj W=>?_
  refine step_append_lies _ rfl (.tmp 75) (.tmp 77) 36 rfl C 79 ev _ 2 16 Tryz.underlying36 eB fb em b8 rfl (by decide) (.slice yS hs.length yT) hs.length _ rfl (jr.ow.alloc _).drew ⟨wr.heap.size,0,none⟩ 1 1 [.int .i64 a,.int .i64 b] rfl rfl (i5 (h8 _ _)) (by simp[Value.oneCell']) (by decide) cn cq cJ _ rfl ?_;intro bY cap al bc br aO cj;have aZ:=js (y8 _ _ _) br;have f6:=(l2 al aZ).1;have h0:=(l2 al aZ).2;refine aQ W (by(first | assumption | exact⟨m3,k1⟩ | exact aN _ (y8 _ _ _) | exact aN _ (Ag _ _) | exact aN _ (qQ _ _) | exact aN _ (by assumption) | exact⟨(ce _ _ _ _ po).trans (aN _ aZ).1,(ce _ _ _ _ po).trans (aN _ aZ).2⟩)) fun M8=>?_
  clear W aj;refine R 8 ?_;refine R 9 ?_;refine rd 10 fun aj W=>?_
  (try simp only[bf,bg,bh]);go_simp;refine aQ W (by(first | assumption | exact⟨m3,k1⟩ | exact aN _ (y8 _ _ _) | exact aN _ (Ag _ _) | exact aN _ (qQ _ _) | exact aN _ (by assumption) | exact⟨(ce _ _ _ _ po).trans (aN _ aZ).1,(ce _ _ _ _ po).trans (aN _ aZ).2⟩)) fun Vb=>?_
  clear W aj;refine gn (by kernel_rfl) ?_ _;refine j8 ?_;generalize gz:World.setCell al _ _=aH;have n3:aH.cell? ⟨E,1,none⟩=some (.slice (some ⟨bY,0,none⟩) (hs.length+1) cap):=by rw[<-gz];exact on (h:=f6) ..
  have hG:al.grownBy aH (some E):=by rw[<-gz];exact agd _ _ _ _
  have xB:∀j,j≠1->aH.cell? ⟨E,j,none⟩=al.cell? ⟨E,j,none⟩:=fun j aT=>by
   rw[<-gz];exact oL (h:=fun e=>aT (by cases e;rfl)) ..
  have h1:∀j,aH.frozen? ⟨E,j,none⟩=al.frozen? ⟨E,j,none⟩:=fun j=>by rw[<-gz];exact s6 _ _ _ _
  clear gz;have B6:E<wr.heap.size:=jr.lt;have lW:M<wr.heap.size:=jr.lm;have gO:Hid ((Value.slice yS hs.length yT).ownBlock=some bY∨n<=bY):=by
   rcases aO with h | h
   ·exact .inl h
   ·right;simp at h;omega
  have jK:bY≠E∧bY≠M:=by
   rcases aO with h | h
   ·exact⟨fun e=>cc.ng (by rw[h,e]),fun e=>cc.nm (by rw[h,e])⟩
   ·simp at h;omega
  have zm:=aZ.size;have FZ:=hG.size;have HR:∀j,al.cell? ⟨E,j,none⟩=wr.cell? ⟨E,j,none⟩:=fun j=>aZ.cell_far ⟨E,j,none⟩ B6 (fun e=>cc.ng e.symm)
  have M2:∀j,al.frozen? ⟨E,j,none⟩=false:=fun j=>(aZ.frozen_far ⟨E,j,none⟩ B6 (fun e=>cc.ng e.symm)).trans (jr.fr j)
  have hM:aH.ownsRow C 79 2 (.slice (some ⟨bY,0,none⟩) (hs.length+1) cap) (hs++[(⟨a,b⟩:Z)]).length ((hs++[(⟨a,b⟩:Z)]).flatMap Z.cells):=by
   have:=bc.kept hG (.inr (fun e=>jK.1 (by cases e;rfl)))
   rw[s4,jw];exact this
  have IV:aH.cell? ⟨E,2,none⟩=some (.map (some M)):=(xB 2 (by decide)).trans ((HR 2).trans jr.c2);have XG:aH.cell? ⟨E,0,none⟩=some (.int .i64 first):=(xB 0 (by decide)).trans ((HR 0).trans jr.c0);have ID:aH.cell? ⟨kb,0,none⟩=some (.int .i64 a):=(hG.cell_far ⟨kb,0,none⟩ (by show kb<_;omega) (fun e=>po (by cases e;rfl))).trans (aN _ aZ).1;have IE:aH.cell? ⟨kb,1,none⟩=some (.int .i64 b):=(hG.cell_far ⟨kb,1,none⟩ (by show kb<_;omega) (fun e=>po (by cases e;rfl))).trans (aN _ aZ).2;have V2:aH.heap[M]?=wr.heap[M]?:=(hG.block M (by omega) (fun e=>cc.ne (by cases e;rfl))).trans (aZ.block M lW (fun e=>cc.nm e.symm));have Mh:yn aH.drew M first hs:=jr.kn.to V2;obtain⟨dN,NS,B7,amt,alz,xE⟩:=aeV H (by omega) Mh a b (by omega) (by omega) ah.out;obtain⟨ams,aly,NO,_⟩:=id Mh;have uB:aH.grownBy dN (some M):=js (Ag aH (some M)) (by rw[xE];exact afR _ NO);clear xE NO;have Rv:=uB.size;have yx:∀b j,b<aH.heap.size->b≠M->dN.cell? ⟨b,j,none⟩=aH.cell? ⟨b,j,none⟩:=fun b j F O=>uB.cell_far ⟨b,j,none⟩ F (fun e=>O (by cases e;rfl))
  have vu:dN.cell? ⟨E,2,none⟩=some (.map (some M))∧dN.cell? ⟨kb,0,none⟩=some (.int .i64 a)∧dN.cell? ⟨kb,1,none⟩=some (.int .i64 b):=⟨(yx E 2 (by omega) cc.ne).trans IV,(yx kb 0 (by omega) NB).trans ID,(yx kb 1 (by omega) NB).trans IE⟩
  have MR:dN.cell? ⟨E,0,none⟩=some (.int .i64 first):=(yx E 0 (by omega) cc.ne).trans XG;have MS:=(yx E 1 (by omega) cc.ne).trans n3;have Uq:=vu.1;have Ow:=hM.kept uB (.inr (fun e=>jK.2 (by cases e;rfl)));have M1:∀j,dN.frozen? ⟨E,j,none⟩=false:=fun j=>(uB.frozen_far ⟨E,j,none⟩ (by show E<_;omega) (fun e=>cc.ne (by cases e;rfl))).trans ((h1 j).trans (M2 j))
  have ao2:(Instr.mapUpdate 110 (.map (some M)) (.agg #[.int .i64 a,.int .i64 b]) (.int .i64 (2*((first:Int)+(hs.length:Int))))).run Tryz.prog aH.drew = .ok () dN:=NS;clear NS yx HR M2 xB h1 f6 h0
  change Hid _ at MR MS Ow M1 B7
  clear Uq rA lF lU n3 hM;go_wp2;refine mR ?_;refine ih (S:=(fun B=>B.cell? ⟨E,2,none⟩=some (.map (some M))∧B.cell? ⟨kb,0,none⟩=some (.int .i64 a)∧B.cell? ⟨kb,1,none⟩=some (.int .i64 b))) (by kernel_rfl) (by(first | assumption | exact⟨IV,ID,IE⟩ | exact vu)) (fun ans=>?_);refine R 0 ?_;refine R 1 ?_;refine R 2 ?_;refine R 3 ?_;refine R 4 ?_;refine R 5 ?_;refine rd 6 fun aj W=>?_
  (try simp only[bf,bg,bh]);go_simp;refine aQ W (by(first | assumption | exact⟨IV,ID,IE⟩ | exact vu)) fun Vh=>?_
  clear W aj;refine gn (by kernel_rfl) ?_ _;refine j8 ?_;go_wp2;refine bodyPost_ret (v:= .int .i64 (2*((first:Int)+(hs.length:Int)))) (by simp[results,Tryz.results90,go_sem]) rfl ⟨rfl,⟨_,⟨MR,MS.out,vu.1,Ow.out,B7.out,M1.out,by omega,by omega,by omega,cc.ne,fun e=>jK.1 (by cases e;rfl),fun e=>jK.2 (by cases e;rfl)⟩,fun x J=>by cases J;exact gO⟩,⟨al,aH,js Po aZ,hG,uB⟩⟩
end Go.Proofs.YtcbcenfjigcfkaaGreatDoor
