import Derived.Test.YtcbcenfjigcfkaaGreatDoorK25
set_option maxRecDepth 100000
set_option maxHeartbeats 40000000
namespace Go.Proofs.YtcbcenfjigcfkaaGreatDoor
open Go.RowKit
theorem XD {gQ:List Nat} {w B:World} {Y e size n:Nat} {v:Value} {xs:List Value} (h:w.ownsRow Y e size v n xs) (aY:jy gQ w B) (ag:∀k,v.ownBlock=some k->k∉gQ):B.ownsRow Y e size v n xs:=by
 refine⟨h.1,?_⟩;rcases h.2 with h | ⟨g,cap,hV,rfl,F,O,aW⟩
 ·exact .inl h
 ·exact .inr ⟨g,cap,hV,rfl,F,(aY.block g (Array.getElem?_eq_some_iff.1 O).1 (ag g rfl)).trans O,aW⟩
theorem ah1 {P:Program} {c:Code} {Q:Exit->Act->World->Prop} {a:Act} {w:World} (h:c.wp P (Exit.then (fun a w=>Q .normal a w) Q) a w):c.wp P Q a w:=Code.wp_mono (fun e _ _ h=>by cases e <;> exact h) h
theorem aur {Y:Nat} {w:World} {a:Option Addr} {gx:Nat}:cm Y w a gx []:=fun h=>absurd rfl h
def mI (w:World) (v:Value) (l:List Nat):Prop:=(v = .slice none 0 0∧l=[])∨∃b o c,v = .slice (some ⟨b,o,none⟩) l.length c∧b<w.heap.size∧∀(i:Nat) (x:Nat),l[i]?=some x->w.cell? ⟨b,o+i,none⟩=some (.int .u64 (x:Int))
theorem mI.to {w B:World} {v:Value} {l:List Nat} (h:mI w v l) (D:V w B):mI B v l:=by
 rcases h with h | ⟨b,o,c,L,aB,ar⟩
 ·exact .inl h
 ·exact .inr ⟨b,o,c,L,bk aB D.size,fun i x J=>(D.cell (p:=⟨b,o+i,none⟩) aB).trans (ar i x J)⟩
theorem mI.of {w:World} {C n:Nat} {v:Value} {l:List Nat} (h:w.ownsRow C 32 1 v n (l.map ib)):mI w v l:=by
 have hl:n=l.length:=by have:=h.1;simp at this;omega
 rcases h.2 with ⟨aI,F⟩ | ⟨g,cap,hV,L,F⟩
 ·exact .inl ⟨aI,yc (by omega)⟩
 ·refine .inr ⟨g,0,cap,by rw[L,hl],(h.lt g (by rw[L];rfl)).2,fun i x J=>?_⟩
  have:=h.cells (g:=g) (by rw[L];rfl) i (.int .u64 (x:Int)) (by rw[fT,J];rfl)
  rw[HH] at this;simpa using this
theorem mI.row {w:World} {v:Value} {l:List Nat} (h:mI w v l):∃a c,v = .slice a l.length c∧cm w.heap.size w a 1 (l.map k6):=by
 rcases h with ⟨rfl,rfl⟩ | ⟨b,o,c,L,aB,ar⟩
 ·exact⟨none,0,rfl,aur⟩
 ·refine⟨_,c,L,fun _=>⟨b,o,rfl,aB,fun i cs hi j x J=>?_⟩⟩;rw[fT] at hi;cases aF:l[i]? with
  | none=>rw[aF] at hi;cases hi
  | some y =>
   rw[aF] at hi;have e:[Value.int .u64 (y:Int)]=cs:=by simpa[k6] using hi
   subst e;cases j with
   | succ j=>simp at J
   | zero =>
    have yv:Value.int .u64 (y:Int)=x:=by simpa using J
    subst yv;simpa using ar i y aF
def zK (a b:Value):Prop:=∀x,a.ownBlock=some x->b.ownBlock≠some x
theorem mI.blk {w:World} {v:Value} {l:List Nat} (h:mI w v l):∀x,v.ownBlock=some x->x<w.heap.size:=by
 intro x J;rcases h with ⟨rfl,_⟩ | ⟨b,o,c,rfl,aB,_⟩
 ·cases J
 ·cases J;exact aB
theorem mI.kept {w B:World} {v:Value} {l:List Nat} {row:Option Nat} (h:mI w v l) (af:w.grownBy B row) (cb:∀x,row=some x->v.ownBlock≠some x):mI B v l:=by
 rcases h with h | ⟨b,o,c,rfl,aB,ar⟩
 ·exact .inl h
 ·refine .inr ⟨b,o,c,rfl,bk aB af.size,fun i x J=>?_⟩;refine(dA (w:=w) (a:=⟨b,o+i,none⟩) (af.block b aB ?_)).trans (ar i x J);intro e;exact cb b e.symm rfl
theorem zK.new {w:World} {a b:Value} {l:List Nat} (h:zK a b) (D:mI w b l) {g H m cap:Nat} (af:a.ownBlock=some g∨g=H) (QE:w.heap.size<=H):zK (.slice (some ⟨g,0,none⟩) m cap) b:=by
 intro x J;have e:g=x:=by cases J;rfl
 subst e;rcases af with af | af
 ·exact h g af
 ·intro bH
  have:=D.blk g bH
  omega
structure nh where
 v:Value
 l:List Nat
def t5 (am:List Nat) (ls:List (List Nat)) (z:jz):List (List Nat) :=
 match ls[z.mem.toNat]? with
 | some l=>if gR am z.when_≠0∧gR am z.addr<l.length then ls.set z.mem.toNat (l.set (gR am z.addr) (gR am z.data)) else ls
 | none=>ls
theorem awE (am:List Nat) (ms:List fF) (z:jz):(m8 am ms z).map fF.l=t5 am (ms.map fF.l) z:=by
 unfold m8 t5;rw[fT];cases ae:ms[z.mem.toNat]? with
 | none=>rfl
 | some m =>
  simp only[Option.map_some];split
  ·rw[List.map_set]
  ·rfl
theorem amP (am:List Nat) (hL:List jz) (ms:List fF):(hL.foldl (m8 am) ms).map fF.l=hL.foldl (t5 am) (ms.map fF.l):=by
 induction hL generalizing ms with
 | nil=>rfl
 | cons z r aA=>simp only[List.foldl_cons,aA,awE]
structure oT where
 r:List Nat
 m:List (List Nat)
def nD (N:aR) (row:List Nat) (s:oT):List Nat:=ky N row s.r s.m N.nodes.length
def AH (N:aR) (am:List Nat):List Nat:=N.regs.map fun z=>gR am z.next
def v3 (N:aR) (row:List Nat) (s:oT):oT:=⟨AH N (nD N row s),N.wrs.foldl (t5 (nD N row s)) s.m⟩
def uM (N:aR) (am:List Nat):List Nat:=N.outs.map (gR am)
def zG (N:aR) (s:oT) (j6:List (List Nat)):oT:=j6.foldl (fun s r=>v3 N r s) s
def tB (N:aR):List (List Nat)->oT->List (List Nat)
 | [],_=>[]
 | r::t,s=>uM N (nD N r s)::tB N t (v3 N r s)
theorem auv (N:aR) (l:List (List Nat)) (r:List Nat) (s:oT):tB N (l++[r]) s=tB N l s++[uM N (nD N r (zG N s l))]:=by
 induction l generalizing s with
 | nil=>rfl
 | cons a t aA=>simp only[List.cons_append,tB,aA];rfl
theorem auN (N:aR) (l:List (List Nat)) (r:List Nat) (s:oT):zG N s (l++[r])=v3 N r (zG N s l):=by
 unfold zG;rw[List.foldl_append];rfl
def KV (N:aR):List Nat:=N.regs.map fun r=>r.init.toNat
def Od (N:aR):List (List Nat):=N.mems.map fun m=>List.replicate m.words.toNat 0
def zv (N:aR):oT:=⟨KV N,Od N⟩
def xj (N:aR) (s:oT):Prop:=vq N s.r s.m
structure aj6 (N:aR):Prop where
 reg:∀z,z∈N.regs->(1<=z.width∧z.width<=32)∧z.init<=i3 z.width
 mem:∀z,z∈N.mems->(1<=z.width∧z.width<=32)∧1<=z.words∧z.words<=256
 next:∀z,z∈N.regs->j7 N z.next z.width=true
 wr:∀z,z∈N.wrs->(0<=z.mem∧z.mem<(N.mems.length:Int)∧0<=z.addr∧z.addr<(N.nodes.length:Int))∧j7 N z.when_ 1=true∧j7 N z.data (qy N z.mem)=true
 out:∀a,a∈N.outs->0<=a∧a<(N.nodes.length:Int)
theorem q1 {N:aR} (h:er N=true):aj6 N:=by
 unfold er at h;simp only[Bool.and_eq_true] at h;obtain⟨⟨⟨⟨⟨⟨_,O⟩,aW⟩,_⟩,hY⟩,mX⟩,Dp⟩:=h;refine⟨fun z ao=>?_,fun z ao=>?_,fun z ao=>k9.1 hY z ao,fun z ao=>?_,fun a ad=>?_⟩
 ·have:=k9.1 O z ao
  simp only[yP,cL,Bool.and_eq_true,decide_eq_true_eq] at this;exact this
 ·have:=k9.1 aW z ao
  simp only[xL,cL,Bool.and_eq_true,decide_eq_true_eq] at this;exact this
 ·have:=k9.1 mX z ao
  simp only[o6,Bool.and_eq_true,decide_eq_true_eq] at this;exact⟨this.1.1,this.1.2,this.2⟩
 ·have:=k9.1 Dp a ad
  simpa only[mO,decide_eq_true_eq] using this
theorem Jl {N:aR} {i x:Int} (h:j7 N i x=true):0<=i∧i<(N.nodes.length:Int)∧∃d,N.nodes[i.toNat]?=some d∧d.width=x:=by
 unfold j7 at h;simp only[decide_eq_true_eq] at h;obtain⟨aI,d,U,aw⟩:=h
 have:=(cr.1 U).1
 exact⟨aI,by omega,d,U,aw⟩
theorem ahQ {N:aR} {am:List Nat} (hl:am.length=N.nodes.length) (L:De N am) {i x:Int} (h:j7 N i x=true):gR am i<2^x.toNat:=by
 obtain⟨aI,F,d,U,aw⟩:=Jl h;obtain⟨y,aF⟩:∃y,am[i.toNat]?=some y:=⟨am[i.toNat]'(by omega),ct (by omega)⟩
 unfold gR;rw[aF,<-aw];exact L _ y d aF U
theorem awA {N:aR} {am:List Nat} (hl:am.length=N.nodes.length) (L:De N am) {z:jz} (ao:j7 N z.data (qy N z.mem)=true) {regs:List Nat} {ls:List (List Nat)} (h:vq N regs ls):vq N regs (t5 am ls z):=by
 unfold t5;cases ae:ls[z.mem.toNat]? with
 | none=>exact h
 | some l =>
  simp only;split
  ·refine⟨h.rl,h.rr,by rw[List.length_set];exact h.ml,fun i pw q hC aJ=>?_⟩;by_cases hi:i=z.mem.toNat
   ·subst hi;rw[t6 (cr.1 ae).1] at hC;cases hC
    have:=h.mm _ l q ae aJ
    refine⟨by rw[List.length_set];exact this.1,fun x J=>?_⟩;rcases List.mem_or_eq_of_mem_set J with J | rfl
    ·exact this.2 x J
    ·have U:=ahQ hl L ao;rw[show qy N z.mem=q.width by unfold qy;rw[aJ];rfl] at U;exact U
   ·rw[ve (Ne.symm hi)] at hC;exact h.mm i pw q hC aJ
  ·exact h
theorem YA (N:aR) (row:List Nat) (s:oT):(nD N row s).length=N.nodes.length:=Ai _ _ _ _ _
theorem Yd {Y:Nat} {w:World} {S:dp} {N:aR} (aO:eM Y w S N) (aG:er N=true) (row:List Nat) {s:oT} (h:xj N s):xj N (v3 N row s):=by
 have P:=q1 aG;have L:De N (nD N row s):=M0 aO aG row s.r s.m h _;have hl:=YA N row s;have F:vq N (AH N (nD N row s)) s.m:=by
  refine⟨by unfold AH;simp,fun i x z J ao=>?_,h.ml,h.mm⟩;unfold AH at J;rw[fT,ao] at J;have e:gR (nD N row s) z.next=x:=by simpa using J
  rw[<-e];exact ahQ hl L (P.next z (bn ao))
 show vq N (AH N (nD N row s)) (N.wrs.foldl (t5 (nD N row s)) s.m)
 have:∀(hL:List jz) (ls:List (List Nat)),(∀z,z∈hL->z∈N.wrs)->vq N (AH N (nD N row s)) ls->vq N (AH N (nD N row s)) (hL.foldl (t5 (nD N row s)) ls):=by
  intro hL
  induction hL with
  | nil=>intro ls _ h;exact h
  | cons z r aA =>
   intro ls bO h;exact aA _ (fun y aF=>bO y (qd _ aF)) (awA hl L (P.wr z (bO z qe)).2.2 h)
 exact this _ _ (fun z ao=>ao) F
theorem WX {Y:Nat} {w:World} {S:dp} {N:aR} (aO:eM Y w S N) (aG:er N=true):xj N (zv N):=by
 have P:=q1 aG;refine⟨by simp[zv,KV],fun i x z J ao=>?_,by simp[zv,Od],fun i l z hl ao=>?_⟩
 ·have WJ:(KV N)[i]?=some x:=J;unfold KV at WJ;rw[fT,ao] at WJ;have e:z.init.toNat=x:=by simpa using WJ
  have F:=(P.reg z (bn ao)).2;have O:=(aO.ra z (bn ao)).1;unfold i3 at F;omega
 ·have hC:(Od N)[i]?=some l:=hl;unfold Od at hC;rw[fT,ao] at hC;have e:List.replicate z.words.toNat 0=l:=by simpa using hC
  rw[<-e];refine⟨by simp,fun x J=>?_⟩;rw[List.eq_of_mem_replicate J];exact Nat.two_pow_pos _
theorem auM {Y:Nat} {w:World} {S:dp} {N:aR} (aO:eM Y w S N) (aG:er N=true) (j6:List (List Nat)) {s:oT} (h:xj N s):xj N (zG N s j6):=by
 induction j6 generalizing s with
 | nil=>exact h
 | cons r t aA=>exact aA (Yd aO aG r h)
def th (w:World) (ab:Nat) (S:dp) (N:aR):Prop:=∀(j:Nat) (v:Value),(S.cells N)[j]?=some v->w.cell? ⟨ab,j,none⟩=some v
def h4 (l:List l4):Nat:=(l.map fun r=>r.width.toNat).sum
def ha (l:List hf):Nat:=(l.map fun m=>m.width.toNat*m.words.toNat).sum
def ki (N:aR) (l:List Int):Nat:=(l.map fun a=>(f2 N a).toNat).sum
def O0 (N:aR):Bool:=decide (6000<h4 N.regs+ha N.mems∨60000<ki N N.outs)
theorem af4 {l:List l4} {k:Nat} {r:l4} (h:l[k]?=some r):h4 (l.take (k+1))=h4 (l.take k)+r.width.toNat:=by unfold h4;rw[gM l k r h,g1,List.sum_append];simp
theorem Xj {l:List hf} {k:Nat} {r:hf} (h:l[k]?=some r):ha (l.take (k+1))=ha (l.take k)+r.width.toNat*r.words.toNat:=by unfold ha;rw[gM l k r h,g1,List.sum_append];simp
theorem Xz {N:aR} {l:List Int} {k:Nat} {r:Int} (h:l[k]?=some r):ki N (l.take (k+1))=ki N (l.take k)+(f2 N r).toNat:=by unfold ki;rw[gM l k r h,g1,List.sum_append];simp
theorem Cp {N:aR} (aG:er N=true) {d:eO} (U:d∈N.nodes):1<=d.width∧d.width<=32:=by
 obtain⟨i,hi⟩:=List.mem_iff_getElem?.1 U;have qW:=(cr.1 hi).1;unfold er at aG;simp only[Bool.and_eq_true] at aG;have cw:=aG.1.1.1.2
 have:=k9.1 cw i (om.2 qW)
 unfold qA at this;rw[hi] at this;simp only at this;unfold pz at this;split at this
 ·cases this
 ·next aY =>
  have e:cL d.width=true:=by
   cases aw:cL d.width with
   | true=>rfl
   | false=>exact absurd (.inl aw) aY
  simpa[cL] using e
theorem CC {α:Type} (f:α->Nat) (b:Nat) (l:List α) (h:∀x,x∈l->f x<=b):(l.map f).sum<=b*l.length:=by
 induction l with
 | nil=>simp
 | cons a l aA =>
  have:=aA (fun x J=>h x (qd _ J))
  have:=h a qe
  simp only[List.map_cons,List.sum_cons,List.length_cons,Nat.mul_succ];omega
theorem ave (Y:Nat) (w:World) (ab:Nat) (S:dp) (N:aR) (h:eM Y w S N) (aG:er N=true) (D:th w ab S N) (F:N.regs.length<=1048576) (O:N.mems.length<=1048576) (aW:N.outs.length<=1048576) :
  Calls Tryz.prog 26 #[.pointer (some ⟨ab,0,none⟩)] w fun e B=>e = .returned (.bool (O0 N))∧V w B:=by
 have P:=K (q1 aG);have cy:w.cell? ⟨ab,1,none⟩=some (.slice S.a1 N.nodes.length S.c1):=D 1 _ rfl;have eX:w.cell? ⟨ab,2,none⟩=some (.slice S.a2 N.regs.length S.c2):=D 2 _ rfl;have fH:w.cell? ⟨ab,3,none⟩=some (.slice S.a3 N.mems.length S.c3):=D 3 _ rfl;have g5:w.cell? ⟨ab,5,none⟩=some (.slice S.a5 N.outs.length S.c5):=D 5 _ rfl;have gg:=K h;have mU:Hid (∀k,h4 (N.regs.take k)<=33554432):=fun k=>by
  have:=CC (fun r:l4=>r.width.toNat) 32 (N.regs.take k) (fun r ak=>by have:=(P.reg r (su ak)).1;omega)
  rw[jx] at this;unfold h4;omega
 have C0:Hid (∀k,ha (N.mems.take k)<=8589934592):=fun k=>by
  have:=CC (fun r:hf=>r.width.toNat*r.words.toNat) 8192 (N.mems.take k) (fun r ak=>by
   have:=P.mem r (su ak)
   exact Nat.mul_le_mul (show r.width.toNat<=32 by omega) (show r.words.toNat<=256 by omega))
  rw[jx] at this;unfold ha;omega
 have oQ:Hid (∀d,d∈N.nodes->1<=d.width∧d.width<=32):=fun d U=>Cp aG U
 have hN:Hid (∀k,ki N (N.outs.take k)<=33554432):=fun k=>by
  have:=CC (fun a:Int=>(f2 N a).toNat) 32 (N.outs.take k) (fun a _=>by
   unfold f2;cases e:N.nodes[a.toNat]? with
   | none=>simp
   | some d=>have:=oQ d (bn e);simp;omega)
  rw[jx] at this;unfold ki;omega
 obtain⟨Dc,Mu⟩:∃x,Hid (x=h4 N.regs):=⟨_,rfl⟩
 obtain⟨res,aas⟩:∃b,Hid (O0 N=b):=⟨_,rfl⟩
 rw[aas.out];clear h D;go_enter Tryz.func26,Tryz.ntmps26
 go_wp2_with fail
 go_loopw [3,14] (fun o5 aq B=>∃(k:Nat),k<=N.regs.length∧aq = .int .i64 k∧o5 = .int .i64 ((h4 (N.regs.take k):Nat):Int)∧w=B) (fun _ aq _=>N.regs.length - (intOf aq).toNat)
 case atStart=>exact⟨0,cE _,rfl,rfl,rfl⟩
 case round =>
  obtain⟨k,X,rfl,rfl,rfl⟩:=hrel;by_cases aB:k<N.regs.length
  ·obtain⟨r,ak⟩:=bS aB;obtain⟨bG,ck,kr,gK,cx⟩:=gg.r.el ak;have c0:=cx 0 _ rfl;have qw:=(P.reg r (bn ak)).1;have bW:=K (af4 ak);have fG:=mU k;generalize h4 (N.regs.take k)=hb at *;have fa:(k:Int)<(N.regs.length:Int):=by omega
   have bM:=bF ((k:Int)+1);obtain⟨wd,dg⟩:∃m:Nat,r.width=(m:Int):=⟨r.width.toNat,by omega⟩
   rw[Nat.add_zero,dg] at c0;rw[dg] at qw bW;have lg:=bF ((hb:Int)+(wd:Int));rw[kr] at eX;clear ak cx dg;go_wp2;go_roundw
   case measure=>simp[intOf];omega
   exact⟨k+1,by omega,by simp,by rw[bW.out];simp,trivial⟩
  ·have cQ:¬((k:Int)<(N.regs.length:Int)):=by omega
   have hB:N.regs.take k=N.regs:=fQ (by omega);have Nd:=mU k;rw[hB] at Nd ⊢;rw[<-Mu.out] at Nd ⊢;clear hB;go_wp2_with fail
   go_loopw [3,33] (fun o5 aq B=>∃(k:Nat),k<=N.mems.length∧aq = .int .i64 k∧o5 = .int .i64 ((Dc+ha (N.mems.take k):Nat):Int)∧Hid (∃q,B=w.drewN q)) (fun _ aq _=>N.mems.length - (intOf aq).toNat)
   case atStart=>exact⟨0,cE _,rfl,rfl,0,rfl⟩
   case round =>
    obtain⟨k2,bz,rfl,rfl,ui⟩:=hrel;have ta:Hid (∀p,wr.cell? p=w.cell? p):=fun p=>by obtain⟨q,aJ⟩:=ui.out;rw[aJ];rfl
    by_cases oZ:k2<N.mems.length
    ·obtain⟨mm,ae⟩:=bS oZ;obtain⟨nv,im,kr,o0,lG⟩:=gg.m.el ae;have lW:=P.mem mm (bn ae);have bW:=K (Xj ae);have fG:=C0 k2;generalize ha (N.mems.take k2)=hb at *;obtain⟨jf,tr⟩:∃m:Nat,mm.width=(m:Int):=⟨mm.width.toNat,by omega⟩
     obtain⟨kL,tq⟩:∃m:Nat,mm.words=(m:Int):=⟨mm.words.toNat,by omega⟩
     have c0:wr.cell? ⟨nv,im+k2*2,none⟩=some (.int .i64 (jf:Int)):=(ta _).trans (by have:=lG 0 (.int .i64 mm.width) rfl;rw[tr] at this;simpa using this);have c1:wr.cell? ⟨nv,im+k2*2+1,none⟩=some (.int .i64 (kL:Int)):=(ta _).trans (by have:=lG 1 (.int .i64 mm.words) rfl;rw[tq] at this;exact this);rw[kr] at fH;have Gj:=(ta ⟨ab,3,none⟩).trans fH;rw[tr,tq] at lW bW;have Ik:jf*kL<=8192:=Nat.mul_le_mul (show jf<=32 by omega) (show kL<=256 by omega);obtain⟨ny,pu⟩:=cf (jf*kL);have l8:(jf:Int)*(kL:Int)=(ny:Int):=by rw[pu];simp
     have Pw:=K pu;rw[<-pu] at Ik;simp only[Int.toNat_natCast] at bW;rw[<-pu] at bW;have Fk:IntKind.i64.wrap ((jf:Int)*(kL:Int))=(ny:Int):=by rw[l8];exact mj _ (by omega) (by omega)
     obtain⟨rs,k0⟩:=cf (Dc+hb);have Dk:=bF (ny:Int);have HN:=bF ((rs:Int)+(ny:Int));have BF:Hid (Dc+ha (N.mems.take (k2+1))=rs+ny):=by show _=_;rw[bW.out,k0];omega
     rw[<-k0];have KH:(k2:Int)<(N.mems.length:Int):=by omega
     have bM:=bF ((k2:Int)+1);have hx:wr.cell? ⟨ab,3,none⟩=some (.slice (some ⟨nv,im,none⟩) N.mems.length S.c3)∧wr.cell? ⟨nv,im+k2*2,none⟩=some (.int .i64 (jf:Int))∧wr.cell? ⟨nv,im+k2*2+1,none⟩=some (.int .i64 (kL:Int)):=⟨Gj,c0,c1⟩
     have rm:Hid (∃q,wr.drew=w.drewN q):=by obtain⟨q,aJ⟩:=ui.out;exact⟨q+1,by rw[aJ];rfl⟩
     clear ae lG pu k0 tr tq lW;go_upto_region 10 with fail
     refine mR ?_;refine ih (S:=(fun B=>B.cell? ⟨ab,3,none⟩=some (.slice (some ⟨nv,im,none⟩) N.mems.length S.c3)∧B.cell? ⟨nv,im+k2*2,none⟩=some (.int .i64 (jf:Int))∧B.cell? ⟨nv,im+k2*2+1,none⟩=some (.int .i64 (kL:Int)))) (by kernel_rfl) (by exact hx) (fun ii=>?_);refine R 0 ?_;refine R 1 ?_;refine R 2 ?_;refine R 3 ?_;refine R 4 ?_;refine R 5 ?_;refine R 6 ?_;refine R 7 ?_;refine R 8 ?_;refine R 9 ?_;refine R 10 ?_;refine R 11 ?_;refine R 12 ?_;refine R 13 ?_;refine R 14 ?_;refine R 15 ?_;refine R 16 ?_;refine R 17 ?_;refine R 18 ?_;refine R 19 ?_;refine gn (by kernel_rfl) ?_ _;refine j8 ?_;go_wp2;go_roundw
     case measure=>simp[intOf];omega
     exact⟨k2+1,by omega,by simp,by rw[BF.out];simp,rm⟩
    ·have As:¬((k2:Int)<(N.mems.length:Int)):=by omega
     have adr:N.mems.take k2=N.mems:=fQ (by omega);have anx:=C0 k2;rw[adr] at anx ⊢;obtain⟨MC,CW⟩:∃x,Hid (x=Dc+ha N.mems):=⟨_,rfl⟩
     rw[<-CW.out];have aym:MC<=8623489024:=by rw[CW.out];omega
     have Gk:=(ta ⟨ab,5,none⟩).trans g5;obtain⟨I,av⟩:=cf wr;rw[<-av] at ta Gk ui;rw[<-av];clear av adr;go_wp2_with fail
     go_loopw [4,61] (fun o5 aq B=>∃(k:Nat),k<=N.outs.length∧aq = .int .i64 k∧o5 = .int .i64 ((ki N (N.outs.take k):Nat):Int)∧I=B) (fun _ aq _=>N.outs.length - (intOf aq).toNat)
     case atStart=>exact⟨0,cE _,rfl,rfl,rfl⟩
     case round =>
      obtain⟨k3,lV,rfl,rfl,rfl⟩:=hrel;by_cases Ii:k3<N.outs.length
      ·obtain⟨a,ad⟩:=bS Ii;obtain⟨uK,o3,kr,qt,nP⟩:=gg.o.intR ad;have Nj:=P.out.out a (bn ad);obtain⟨nd,NL⟩:=bS (l:=N.nodes) (k:=a.toNat) (by omega);obtain⟨Xn,Xq,jT,aoI,mc⟩:=gg.n.el NL;have mL:=oQ nd (bn NL);have DP:f2 N a=nd.width:=by unfold f2;rw[NL];rfl
       have bW:=K (Xz (N:=N) ad);have fG:=hN k3;generalize ki N (N.outs.take k3)=hb at *;obtain⟨wd,dg⟩:∃m:Nat,nd.width=(m:Int):=⟨nd.width.toNat,by omega⟩
       obtain⟨gP,Dt⟩:∃m:Nat,a=(m:Int):=⟨a.toNat,by omega⟩
       subst Dt;rw[vg] at mc;have c0:I.cell? ⟨uK,o3+k3,none⟩=some (.int .i64 (gP:Int)):=(ta _).trans nP;have c1:I.cell? ⟨Xn,Xq+gP*4+1,none⟩=some (.int .i64 (wd:Int)):=(ta _).trans (by have:=mc 1 (.int .i64 nd.width) rfl;rw[dg] at this;exact this);rw[kr] at Gk;have D4:=(ta ⟨ab,1,none⟩).trans cy;rw[jT] at D4;rw[DP,dg,vg] at bW;rw[dg] at mL;have aox:(k3:Int)<(N.outs.length:Int):=by omega
       have Vu:(gP:Int)<(N.nodes.length:Int):=by omega
       have bM:=bF ((k3:Int)+1);have lg:=bF ((hb:Int)+(wd:Int));clear ad nP NL mc DP dg Nj;go_wp2;go_roundw
       case measure=>simp[intOf];omega
       exact⟨k3+1,by omega,by simp,by rw[bW.out];simp,trivial⟩
      ·have VO:¬((k3:Int)<(N.outs.length:Int)):=by omega
       have ads:N.outs.take k3=N.outs:=fQ (by omega);rw[ads];have qL:Hid (O0 N=decide (6000<MC∨60000<ki N N.outs)):=by show _=_;unfold O0;rw[CW.out,Mu.out]
       have TJ:=K (aas.symm.trans qL);generalize ki N N.outs=Hr at *;have nY:Hid (V w I):=by obtain⟨q,aJ⟩:=ui.out;show Below _ _ _;rw[aJ];exact Below.drewN (ax _ _) q
       clear ads;by_cases bY:6000<MC
       ·have acv:(6000:Int)<(MC:Int):=by omega
        have U:res=true:=by rw[TJ.out];simp[bY]
        subst U;go_wp2;go_ret
        exact⟨rfl,nY⟩
       ·have acv:¬(6000:Int)<(MC:Int):=by omega
        by_cases bK:60000<Hr
        ·have acw:(60000:Int)<(Hr:Int):=by omega
         have U:res=true:=by rw[TJ.out];simp[bK]
         subst U;go_wp2;go_ret
         exact⟨rfl,nY⟩
        ·have acw:¬(60000:Int)<(Hr:Int):=by omega
         have U:res=false:=by rw[TJ.out];simp[bY,bK]
         subst U;go_wp2;go_ret
         exact⟨rfl,nY⟩
structure q9 (w B:World) (g n:Nat) (ls:List Bool):Prop where
 ow:B.ownsRow w.heap.size 4 1 (.slice (some ⟨g,0,none⟩) n n) n (ls.map gi)
 be:V w B
section
variable {w w1 w2:World} {g n:Nat} {ls:List Bool}
theorem q9.store (h:q9 w w1 g n ls) (k:Nat) (aw:w1.setCell ⟨g,k,none⟩ (.bool true)=w2):q9 w w2 g n (ls.set k true):=by
 obtain⟨F,O⟩:=h.ow.stored k (gi true);have e:w1.setCell ⟨g,k,none⟩ (gi true)=w2:=aw;rw[e] at F O;rw[<-List.map_set] at F
 have:=(h.ow.lt g rfl).1
 exact⟨F,h.be.grown O h.be.size (fun k X=>by cases X;exact this)⟩
theorem q9.len (h:q9 w w1 g n ls):ls.length=n:=by have:=h.ow.1;simp at this;exact this
theorem q9.cell (h:q9 w w1 g n ls) {k:Nat} (X:k<n):(∃x:Bool,w1.cell? ⟨g,k,none⟩=some (.bool x))∧w1.frozen? ⟨g,k,none⟩=false:=by
 have hl:=h.len;refine⟨⟨ls[k],?_⟩,h.ow.frozenAt k⟩;rw[h.ow.cellAt k (by omega),fT,ct (by omega)]
 rfl
theorem q9.at (h:q9 w w1 g n ls) {k:Nat} {x:Bool} (J:ls[k]?=some x):w1.cell? ⟨g,k,none⟩=some (.bool x):=by
 have hl:=h.len
 have:=(cr.1 J).1
 rw[h.ow.cellAt k (by omega),fT,J]
 rfl
end
def hQ (bx:List Bool) (a:Int):Prop:=bx[a.toNat]?=some true
theorem hQ.set {bx:List Bool} {a:Int} (h:hQ bx a) (k:Nat):hQ (bx.set k true) a:=by
 unfold hQ at *;by_cases e:k=a.toNat
 ·subst e;rw[t6 (cr.1 h).1]
 ·rw[ve e];exact h
theorem hQ.new {bx:List Bool} {k:Nat} (h:k<bx.length):hQ (bx.set k true) (k:Int):=by
 unfold hQ;rw[vg,t6 h]
structure lR (N:aR) (bx:List Bool):Prop where
 len:bx.length=N.nodes.length
 outs:∀a,a∈N.outs->hQ bx a
 regs:∀r,r∈N.regs->hQ bx r.next
 wrs:∀z,z∈N.wrs->hQ bx z.when_∧hQ bx z.addr∧hQ bx z.data
 args:∀(i:Nat) (d:eO),N.nodes[i]?=some d->bx[i]?=some true->∀a,a∈d.args->hQ bx a
theorem RI {α:Type} {l:List α} {k:Nat} {x:α} (h:l[k]?=some x) {y:α} (aF:y∈l.take (k+1)):y∈l.take k∨y=x:=by
 rw[gM l k x h] at aF;rcases o7.1 aF with aF | aF
 ·exact .inl aF
 ·exact .inr (by simpa using aF)
theorem ar5 {N:aR} (aG:er N=true) {i:Nat} {d:eO} (hi:N.nodes[i]?=some d) {a:Int} (ad:a∈d.args):0<=a∧a<(i:Int):=by
 have qW:=(cr.1 hi).1;unfold er at aG;simp only[Bool.and_eq_true] at aG;have cw:=aG.1.1.1.2
 have:=k9.1 cw i (om.2 qW)
 unfold qA at this;rw[hi] at this;simp only at this;unfold pz at this;split at this
 ·cases this
 ·split at this
  ·cases this
  ·next D =>
   have bH:jH i a=false:=by
    cases e:jH i a with
    | false=>rfl
    | true=>exact absurd (List.any_eq_true.2 ⟨a,ad,e⟩) D
   unfold jH at bH;simp at bH;omega
theorem arA (Y:Nat) (w:World) (ab:Nat) (S:dp) (N:aR) (h:eM Y w S N) (aG:er N=true) (D:th w ab S N) (ag:N.nodes.length<=1048576) (mb:N.regs.length<=1048576) (j3:N.outs.length<=1048576) (Rg:N.wrs.length<=1048576) (adF:∀d,d∈N.nodes->d.args.length<=1048576) :
  Calls Tryz.prog 51 #[.pointer (some ⟨ab,0,none⟩)] w fun e B=>∃g bx,e = .returned (.slice (some ⟨g,0,none⟩) N.nodes.length N.nodes.length)∧w.heap.size<=g∧q9 w B g N.nodes.length bx∧lR N bx:=by
 have P:=K (q1 aG);have cy:w.cell? ⟨ab,1,none⟩=some (.slice S.a1 N.nodes.length S.c1):=D 1 _ rfl;have eX:w.cell? ⟨ab,2,none⟩=some (.slice S.a2 N.regs.length S.c2):=D 2 _ rfl;have h3:w.cell? ⟨ab,4,none⟩=some (.slice S.a4 N.wrs.length S.c4):=D 4 _ rfl;have g5:w.cell? ⟨ab,5,none⟩=some (.slice S.a5 N.outs.length S.c5):=D 5 _ rfl;have gg:=K h;have w0:Hid (∀(i:Nat) (d:eO),N.nodes[i]?=some d->∀a,a∈d.args->0<=a∧a<(i:Int)):=fun i d hi a ad=>ar5 aG hi ad
 obtain⟨eE,ek,i1,jU,f0⟩:=IB;have TW:=K i1;have ke:eE.bytes*N.nodes.length<=281474976710656:=by rw[f0];omega
 have jc:N.nodes.length<=maxLen:=by simp only[maxLen];omega
 have tok:True:=trivial;obtain⟨n,C1⟩:∃n,Hid (n=N.nodes.length):=⟨_,rfl⟩
 rw[<-C1.out] at cy ag ke jc ⊢
 change Hid _ at adF ek jU
 clear h D i1 f0;go_enter Tryz.func51,Tryz.ntmps51
 go_upto_region 2 with (have _t:=tok;at_make;(refine wpList_make_full _ rfl (.tmp 16) (.tmp 16) 82 rfl w.heap.size 4 eE _ 1 Tryz.underlying82 ek TW jU .i64 .i64 (n:Int) (n:Int) n rfl rfl rfl rfl ke jc (aL _) ?_;intro w1 gX ij;have ch:Hid (q9 w w1 w.heap.size n (List.replicate n false)):=⟨by rw[<-Xh];exact gX,tw ij⟩;clear tok gX ij))
 obtain⟨g,af⟩:=cf (w.heap.size);have B6:w.heap.size<=g:=by omega
 rw[<-af] at ch;rw[<-af];clear af;have Gk:=iP ch.be g5;go_wp2_with fail
 go_loopw [23] (fun aq B=>∃(k:Nat) (bx:List Bool),k<=N.outs.length∧aq = .int .i64 k∧Hid (q9 w B g n bx)∧Hid (∀a,a∈N.outs.take k->hQ bx a)) (fun aq _=>N.outs.length - (intOf aq).toNat)
 case atStart=>exact⟨0,_,cE _,rfl,ch.out,fun a ad=>by simp at ad⟩
 case round =>
  clear ch Gk;obtain⟨k,bx,X,rfl,bB,a6⟩:=hrel;by_cases aB:k<N.outs.length
  ·obtain⟨a,ad⟩:=bS aB;obtain⟨uK,o3,kr,qt,nP⟩:=gg.o.intR ad;have Nj:=P.out.out a (bn ad);obtain⟨gP,Dt⟩:∃m:Nat,a=(m:Int):=⟨a.toNat,by omega⟩
   subst Dt;have c0:=iP bB.be nP;have FE:gP<n:=by rw[C1.out];omega
   obtain⟨⟨i4,hold⟩,h1⟩:=bB.cell FE;have eC:Hid (∀w2,wr.setCell ⟨g,gP,none⟩ (.bool true)=w2->_):=fun w2 (aw:wr.setCell ⟨g,gP,none⟩ (.bool true)=w2)=>bB.store gP aw
   have ue:Hid (∀b,b∈N.outs.take (k+1)->hQ (bx.set gP true) b):=fun b D=>by
    rcases RI ad D with D | rfl
    ·exact(a6 b D).set gP
    ·exact hQ.new (by rw[bB.len];exact FE)
   have fa:(k:Int)<(N.outs.length:Int):=by omega
   have Vu:(gP:Int)<(n:Int):=by omega
   have bM:=bF ((k:Int)+1);rw[kr];clear ad nP Nj;go_wp2_with fail
   generalize av:World.setCell wr _ _=w3;have jn:=K (eC w3 av);clear av hold h1;go_wp2;go_roundw
   case measure=>simp[intOf];omega
   exact⟨k+1,_,by omega,by simp,jn.out,ue⟩
  ·have cQ:¬((k:Int)<(N.outs.length:Int)):=by omega
   have lA:Hid (∀a,a∈N.outs->hQ bx a):=fun a ad=>a6 a (by rw[fQ (by omega)];exact ad)
   have IU:=iP bB.be eX;clear a6;go_wp2_with fail
   go_loopw [36] (fun aq B=>∃(k:Nat) (bx:List Bool),k<=N.regs.length∧aq = .int .i64 k∧Hid (q9 w B g n bx)∧Hid (∀a,a∈N.outs->hQ bx a)∧Hid (∀r,r∈N.regs.take k->hQ bx r.next)) (fun aq _=>N.regs.length - (intOf aq).toNat)
   case atStart=>exact⟨0,bx,cE _,rfl,bB.out,lA.out,fun a ad=>by simp at ad⟩
   case round =>
    clear bB lA IU;obtain⟨k2,R1,bz,rfl,bB,a6,bR⟩:=hrel;have IU:=iP bB.be eX;by_cases oZ:k2<N.regs.length
    ·obtain⟨r,ak⟩:=bS oZ;obtain⟨bG,ck,kr,gK,cx⟩:=gg.r.el ak;have NV:=Jl (P.next r (bn ak));obtain⟨gP,Dt⟩:∃m:Nat,r.next=(m:Int):=⟨r.next.toNat,by omega⟩
     have c0:wr.cell? ⟨bG,ck+k2*3+2,none⟩=some (.int .i64 (gP:Int)):=iP bB.be (by have:=cx 2 (.int .i64 r.next) rfl;rw[Dt] at this;exact this);have FE:gP<n:=by rw[C1.out];omega
     obtain⟨⟨i4,hold⟩,h1⟩:=bB.cell FE;have eC:Hid (∀w2,wr.setCell ⟨g,gP,none⟩ (.bool true)=w2->_):=fun w2 (aw:wr.setCell ⟨g,gP,none⟩ (.bool true)=w2)=>bB.store gP aw
     have ue:Hid (∀b,b∈N.outs->hQ (R1.set gP true) b):=fun b D=>(a6 b D).set gP
     have JW:Hid (∀b,b∈N.regs.take (k2+1)->hQ (R1.set gP true) b.next):=fun b D=>by
      rcases RI ak D with D | rfl
      ·exact(bR b D).set gP
      ·rw[Dt];exact hQ.new (by rw[bB.len];exact FE)
     have fa:(k2:Int)<(N.regs.length:Int):=by omega
     have Vu:(gP:Int)<(n:Int):=by omega
     have bM:=bF ((k2:Int)+1);rw[kr] at IU;clear ak cx NV Dt;go_wp2_with fail
     generalize av:World.setCell wr _ _=w3;have jn:=K (eC w3 av);clear av hold h1;go_wp2;go_roundw
     case measure=>simp[intOf];omega
     exact⟨k2+1,_,by omega,by simp,jn.out,ue.out,JW⟩
    ·have As:¬((k2:Int)<(N.regs.length:Int)):=by omega
     have pd:Hid (∀r,r∈N.regs->hQ R1 r.next):=fun a ad=>bR a (by rw[fQ (by omega)];exact ad)
     have XJ:=iP bB.be h3;clear bR;go_wp2_with fail
     go_loopw [55] (fun aq B=>∃(k:Nat) (bx:List Bool),k<=N.wrs.length∧aq = .int .i64 k∧Hid (q9 w B g n bx)∧Hid (∀a,a∈N.outs->hQ bx a)∧Hid (∀r,r∈N.regs->hQ bx r.next)∧Hid (∀z,z∈N.wrs.take k->hQ bx z.when_∧hQ bx z.addr∧hQ bx z.data)) (fun aq _=>N.wrs.length - (intOf aq).toNat)
     case atStart=>exact⟨0,R1,cE _,rfl,bB.out,a6.out,pd.out,fun a ad=>by simp at ad⟩
     case round =>
      clear bB a6 pd XJ IU;obtain⟨k3,AJ,lV,rfl,bB,a6,bR,g8⟩:=hrel;by_cases Ii:k3<N.wrs.length
      ·obtain⟨z,ao⟩:=bS Ii;obtain⟨oM,ss,kr,i1,xG⟩:=gg.wr.el ao;have zs:=P.wr z (bn ao);have bT:=Jl zs.2.1;have WF:=Jl zs.2.2;obtain⟨a1,Vr⟩:∃m:Nat,z.when_=(m:Int):=⟨z.when_.toNat,by omega⟩
       obtain⟨a2,Vs⟩:∃m:Nat,z.addr=(m:Int):=⟨z.addr.toNat,by omega⟩
       obtain⟨a3,Vt⟩:∃m:Nat,z.data=(m:Int):=⟨z.data.toNat,by omega⟩
       have ux:a1<n:=by rw[C1.out];omega
       have QP:a2<n:=by rw[C1.out];omega
       have anK:a3<n:=by rw[C1.out];omega
       obtain⟨wW,F4⟩:=cf (z.mem);have nJ:wr.cell? ⟨oM,ss+k3*4,none⟩=some (.int .i64 wW):=iP bB.be (by have:=xG 0 (.int .i64 z.mem) rfl;rw[F4];simpa using this);have d1:wr.cell? ⟨oM,ss+k3*4+1,none⟩=some (.int .i64 (a1:Int)):=iP bB.be (by have:=xG 1 (.int .i64 z.when_) rfl;rw[Vr] at this;exact this);have d2:wr.cell? ⟨oM,ss+k3*4+2,none⟩=some (.int .i64 (a2:Int)):=iP bB.be (by have:=xG 2 (.int .i64 z.addr) rfl;rw[Vs] at this;exact this);have qP:wr.cell? ⟨oM,ss+k3*4+3,none⟩=some (.int .i64 (a3:Int)):=iP bB.be (by have:=xG 3 (.int .i64 z.data) rfl;rw[Vt] at this;exact this);have ue:Hid (∀b,b∈N.outs->hQ (((AJ.set a1 true).set a2 true).set a3 true) b):=fun b D=>(((a6 b D).set a1).set a2).set a3
       have JW:Hid (∀b,b∈N.regs->hQ (((AJ.set a1 true).set a2 true).set a3 true) b.next):=fun b D=>(((bR b D).set a1).set a2).set a3
       have ay5:=bB.len;have rm:Hid (∀y,y∈N.wrs.take (k3+1)->hQ (((AJ.set a1 true).set a2 true).set a3 true) y.when_∧hQ (((AJ.set a1 true).set a2 true).set a3 true) y.addr∧hQ (((AJ.set a1 true).set a2 true).set a3 true) y.data):=fun y aF=>by
        rcases RI ao aF with aF | rfl
        ·obtain⟨co,hI,lk⟩:=g8 y aF;exact⟨((co.set a1).set a2).set a3,((hI.set a1).set a2).set a3,((lk.set a1).set a2).set a3⟩
        ·rw[Vr,Vs,Vt];exact⟨((hQ.new (by omega)).set a2).set a3,(hQ.new (by simp;omega)).set a3,hQ.new (by simp;omega)⟩
       have fa:(k3:Int)<(N.wrs.length:Int):=by omega
       have IA:(a1:Int)<(n:Int):=by omega
       have lH:(a2:Int)<(n:Int):=by omega
       have ev:(a3:Int)<(n:Int):=by omega
       have bM:=bF ((k3:Int)+1);rw[kr];clear ao xG zs bT WF Vr Vs Vt F4;go_upto_region 15 with fail
       generalize kA:World.alloc wr _=eQ;obtain⟨qb,Ay⟩:=cf (wr.heap.size);have qV:g≠qb:=by have:=(bB.ow.lt g rfl).2;omega
       have hx:eQ.cell? ⟨qb,1,none⟩=some (.int .i64 (a1:Int))∧eQ.cell? ⟨qb,2,none⟩=some (.int .i64 (a2:Int))∧eQ.cell? ⟨qb,3,none⟩=some (.int .i64 (a3:Int)):=by rw[<-kA];exact⟨ja Ay,ja Ay,ja Ay⟩
       have wZ:Hid (q9 w eQ g n AJ):=by
        have aI:q9 w eQ g n AJ:=by rw[<-kA];exact⟨bB.ow.alloc _,bB.be.alloc bB.be.size _⟩
        exact aI
       rw[<-Ay];clear Ay kA nJ d1 d2 qP;refine mR ?_;refine ih (S:=(fun B=>B.cell? ⟨qb,1,none⟩=some (.int .i64 (a1:Int))∧B.cell? ⟨qb,2,none⟩=some (.int .i64 (a2:Int))∧B.cell? ⟨qb,3,none⟩=some (.int .i64 (a3:Int)))) (by kernel_rfl) (by exact hx) (fun ii=>?_);refine R 0 ?_;refine R 1 ?_;refine R 2 ?_;refine R 3 ?_;refine R 4 ?_;refine R 5 ?_;refine R 6 ?_;refine R 7 ?_;refine R 8 ?_;refine R 9 ?_;refine rd 10 fun aj W=>?_
       obtain⟨⟨azS,aoO⟩,ob⟩:=wZ.cell ux;(try simp only[bf,bg,bh]);go_simp;refine aQ W (by exact⟨(ce _ ⟨g,a1,none⟩ _ _ qV).trans hx.1,(ce _ ⟨g,a1,none⟩ _ _ qV).trans hx.2.1,(ce _ ⟨g,a1,none⟩ _ _ qV).trans hx.2.2⟩) fun aye=>?_
       clear W aj;generalize QM:World.setCell _ _ _=aH;have Y2:=wZ.store a1 QM;have n9:aH.cell? ⟨qb,1,none⟩=some (.int .i64 (a1:Int))∧aH.cell? ⟨qb,2,none⟩=some (.int .i64 (a2:Int))∧aH.cell? ⟨qb,3,none⟩=some (.int .i64 (a3:Int)):=by rw[<-QM];exact⟨(ce _ ⟨g,a1,none⟩ _ _ qV).trans hx.1,(ce _ ⟨g,a1,none⟩ _ _ qV).trans hx.2.1,(ce _ ⟨g,a1,none⟩ _ _ qV).trans hx.2.2⟩
       have zJ:=K Y2;clear Y2 QM aoO ob;refine R 11 ?_;refine rd 12 fun aj W=>?_
       obtain⟨⟨azT,aoP⟩,aoh⟩:=zJ.cell QP;(try simp only[bf,bg,bh]);go_simp;refine aQ W (by exact⟨(ce _ ⟨g,a2,none⟩ _ _ qV).trans n9.1,(ce _ ⟨g,a2,none⟩ _ _ qV).trans n9.2.1,(ce _ ⟨g,a2,none⟩ _ _ qV).trans n9.2.2⟩) fun ayf=>?_
       clear W aj;generalize uw:World.setCell _ _ _=dN;have Y3:=zJ.store a2 uw;have xq:dN.cell? ⟨qb,1,none⟩=some (.int .i64 (a1:Int))∧dN.cell? ⟨qb,2,none⟩=some (.int .i64 (a2:Int))∧dN.cell? ⟨qb,3,none⟩=some (.int .i64 (a3:Int)):=by rw[<-uw];exact⟨(ce _ ⟨g,a2,none⟩ _ _ qV).trans n9.1,(ce _ ⟨g,a2,none⟩ _ _ qV).trans n9.2.1,(ce _ ⟨g,a2,none⟩ _ _ qV).trans n9.2.2⟩
       have SW:=K Y3;clear Y3 uw aoP aoh;refine R 13 ?_;refine rd 14 fun aj W=>?_
       obtain⟨⟨azU,aoQ⟩,aoi⟩:=SW.cell anK;(try simp only[bf,bg,bh]);go_simp;refine aQ W (by exact⟨(ce _ ⟨g,a3,none⟩ _ _ qV).trans xq.1,(ce _ ⟨g,a3,none⟩ _ _ qV).trans xq.2.1,(ce _ ⟨g,a3,none⟩ _ _ qV).trans xq.2.2⟩) fun ayg=>?_
       clear W aj;generalize vv:World.setCell _ _ _=g0;have Y5:=SW.store a3 vv;have anE:g0.cell? ⟨qb,1,none⟩=some (.int .i64 (a1:Int))∧g0.cell? ⟨qb,2,none⟩=some (.int .i64 (a2:Int))∧g0.cell? ⟨qb,3,none⟩=some (.int .i64 (a3:Int)):=by rw[<-vv];exact⟨(ce _ ⟨g,a3,none⟩ _ _ qV).trans xq.1,(ce _ ⟨g,a3,none⟩ _ _ qV).trans xq.2.1,(ce _ ⟨g,a3,none⟩ _ _ qV).trans xq.2.2⟩
       have Y4:=K Y5;clear Y5 vv aoQ aoi;refine gn (by kernel_rfl) ?_ _;refine j8 ?_;clear hx n9 xq anE wZ zJ SW;go_wp2;go_roundw
       case measure=>simp[intOf];omega
       exact⟨k3+1,_,by omega,by simp,⟨Y4.ow.drew,Y4.be.drew⟩,ue.out,JW.out,rm⟩
      ·have VO:¬((k3:Int)<(N.wrs.length:Int)):=by omega
       have J0:Hid (∀z,z∈N.wrs->hQ AJ z.when_∧hQ AJ z.addr∧hQ AJ z.data):=fun a ad=>g8 a (by rw[fQ (by omega)];exact ad)
       have ko:=bF ((n:Int) - 1);clear g8;go_wp2_with fail
       go_loopw [9] (fun aq B=>∃(i:Nat) (bx:List Bool),i<=n∧aq = .int .i64 ((i:Int) - 1)∧Hid (q9 w B g n bx)∧Hid (∀a,a∈N.outs->hQ bx a)∧Hid (∀r,r∈N.regs->hQ bx r.next)∧Hid (∀z,z∈N.wrs->hQ bx z.when_∧hQ bx z.addr∧hQ bx z.data)∧Hid (∀(j:Nat) (d:eO),i<=j->N.nodes[j]?=some d->bx[j]?=some true->∀a,a∈d.args->hQ bx a)) (fun aq _=>(intOf aq+1).toNat)
       case atStart=>exact⟨n,AJ,aL _,rfl,bB.out,a6.out,bR.out,J0.out,fun j d aT U=>by have:=(cr.1 U).1;have:=C1.out;omega⟩
       case round =>
        clear bB a6 bR J0;obtain⟨i,zB,hi,rfl,bB,a6,bR,g8,l1⟩:=hrel;by_cases KE:0<i
        ·obtain⟨j,aT⟩:∃j,i=j+1:=⟨i - 1,by omega⟩
         have Q3:j<n:=by omega
         obtain⟨d,U⟩:=bS (l:=N.nodes) (k:=j) (by have:=C1.out;omega);obtain⟨ak2,QS⟩:=bS (l:=zB) (k:=j) (by rw[bB.len];exact Q3);have axv:=bB.at QS;have yq:((i:Int) - 1)=(j:Int):=by omega
         have HQ:=bF ((j:Int) - 1);have cQ:(0:Int)<=(j:Int):=by omega
         have FO:(j:Int)<(n:Int):=by omega
         have ZJ:=K aT;rw[yq];clear yq;cases ak2
         ·have qI:Hid (∀(sX:Nat) (d:eO),j<=sX->N.nodes[sX]?=some d->zB[sX]?=some true->∀a,a∈d.args->hQ zB a):=fun sX BR adp Ic kf=>by
           by_cases e:sX=j
           ·subst e;rw[QS] at kf;cases kf
           ·exact l1 sX BR (by omega) Ic kf
          clear QS aT U;go_wp2;go_roundw
          case measure=>simp[intOf]
          case rel=>exact⟨j,zB,by omega,by simp,bB.out,a6.out,bR.out,g8.out,qI⟩
         ·obtain⟨Xn,Xq,jT,aoI,mc⟩:=gg.n.el U;have c3:wr.cell? ⟨Xn,Xq+j*4+3,none⟩=some (.slice d.aa d.args.length d.ac):=iP bB.be (mc 3 _ rfl);have D4:=iP bB.be cy;rw[jT] at D4;have aiI:=K ((gg.na d (bn U)).1);have kB:=adF d (bn U);have CM:=K (w0 j d U);obtain⟨m,gT⟩:∃m,Hid (m=d.args.length):=⟨_,rfl⟩
          rw[<-gT.out] at c3 kB
          change Hid _ at QS U
          clear aT mc;go_wp2_with fail
          go_loopw [93] (fun aq B=>∃(k:Nat) (bx:List Bool),k<=m∧aq = .int .i64 k∧Hid (q9 w B g n bx)∧Hid (∀a,hQ zB a->hQ bx a)∧Hid (∀(z:Nat),j<=z->bx[z]?=zB[z]?)∧Hid (∀a,a∈d.args.take k->hQ bx a)) (fun aq _=>m - (intOf aq).toNat)
          case atStart=>exact⟨0,zB,cE _,rfl,bB.out,fun _ h=>h,fun _ _=>rfl,fun a ad=>by simp at ad⟩
          case round =>
           obtain⟨k5,AK,ay0,rfl,rf,i8,xe,Za⟩:=hrel;by_cases cj:k5<m
           ·obtain⟨a,ad⟩:=bS (l:=d.args) (k:=k5) (by rw[<-gT.out];exact cj);obtain⟨uK,o3,kr,qt,nP⟩:=aiI.intR ad;have Nj:=CM a (bn ad);obtain⟨gP,Dt⟩:∃m:Nat,a=(m:Int):=⟨a.toNat,by omega⟩
            subst Dt;have c0:=iP rf.be nP;have FE:gP<n:=by omega
            have ays:gP<j:=by omega
            obtain⟨⟨i4,hold⟩,h1⟩:=rf.cell FE;have eC:Hid (∀w2,wr.setCell ⟨g,gP,none⟩ (.bool true)=w2->_):=fun w2 (aw:wr.setCell ⟨g,gP,none⟩ (.bool true)=w2)=>rf.store gP aw
            have hM:Hid (∀b,hQ zB b->hQ (AK.set gP true) b):=fun b D=>(i8 b D).set gP
            have zZ:Hid (∀(z:Nat),j<=z->(AK.set gP true)[z]?=zB[z]?):=fun z ao=>by rw[ve (by omega)];exact xe z ao
            have aij:Hid (∀b,b∈d.args.take (k5+1)->hQ (AK.set gP true) b):=fun b D=>by
             rcases RI ad D with D | rfl
             ·exact(Za b D).set gP
             ·exact hQ.new (by rw[rf.len];exact FE)
            have azc:(k5:Int)<(m:Int):=by omega
            have Vu:(gP:Int)<(n:Int):=by omega
            have l8:=bF ((k5:Int)+1);rw[kr];clear ad nP Nj;go_wp2_with fail
            generalize av:World.setCell wr _ _=w3;have jn:=K (eC w3 av);clear av hold h1;go_wp2;go_roundw
            case measure=>simp[intOf];omega
            exact⟨k5+1,_,by omega,by simp,jn.out,hM.out,zZ.out,aij⟩
           ·have ayP:¬((k5:Int)<(m:Int)):=by omega
            have qI:Hid (∀(sX:Nat) (d:eO),j<=sX->N.nodes[sX]?=some d->AK[sX]?=some true->∀a,a∈d.args->hQ AK a):=fun sX BR adp Ic kf b D=>by
             by_cases e:sX=j
             ·subst e;rw[U.out] at Ic;cases Ic;exact Za b (by rw[fQ (by have:=gT.out;omega)];exact D)
             ·rw[xe sX adp] at kf;exact i8 b (l1 sX BR (by have:=ZJ.out;omega) Ic kf b D)
            have hM:Hid (∀a,a∈N.outs->hQ AK a):=fun a ad=>i8 a (a6 a ad)
            have zY:Hid (∀r,r∈N.regs->hQ AK r.next):=fun a ad=>i8 _ (bR a ad)
            have ajF:Hid (∀z,z∈N.wrs->hQ AK z.when_∧hQ AK z.addr∧hQ AK z.data):=fun a ad=>by
             obtain⟨co,hI,lk⟩:=g8 a ad;exact⟨i8 _ co,i8 _ hI,i8 _ lk⟩
            go_wp2;go_roundw
            case measure=>simp[intOf]
            case rel=>exact⟨j,AK,by omega,by simp,rf.out,hM.out,zY.out,ajF.out,qI⟩
        ·have Nw:i=0:=by omega
         subst Nw;have cQ:¬((0:Int)<=((0:Nat):Int) - 1):=by omega
         have re:Hid (q9 w wr g n zB∧lR N zB):=⟨bB,⟨by rw[bB.len];exact C1,a6.out,bR.out,g8.out,fun i d U kf a ad=>l1 i d (cE _) U kf a ad⟩⟩
         go_wp2;go_ret
         exact⟨g,rfl,B6,zB,re.1,re.2⟩
end Go.Proofs.YtcbcenfjigcfkaaGreatDoor
