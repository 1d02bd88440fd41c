import Derived.Test.YtlaljeobdddegaaJ22
import Derived.Test.YtlaljeobdddegaaJ23
import Derived.OwnWalk
import Derived.Deep.AppendLies
import Derived.Laws.OwnMore
import Derived.Deep.RegionHeld3
namespace Go.Proofs.Ytlaljeobdddegaa.L
open Go.RowKit
set_option maxRecDepth 100000 in
set_option maxHeartbeats 8000000 in
theorem firstTable_any (w:World) (p:Nat) (S:NtS) (N:NtD) (h:BoxAt w p S N) (h0:0≤N.ins) (h1:N.ins≤60000) (h2:N.init.length<huge) :
  Calls Try.prog 67 #[.pointer (some ⟨p,0,none⟩)] w fun e w'=>e = .returned (.int .i64 N.first)∧∃ n,w'=w.drewN n:=by
 simp only [huge] at h2
 obtain ⟨lt,c0,c1,c2,c3,c4⟩:=h
 go_enter Try.func67,Try.ntmps67
 go_wp2
 go_quiet (fail)
 go_wp2
 go_ret
 exact ⟨ret_int rfl,_,rfl⟩
set_option maxRecDepth 100000 in
set_option maxHeartbeats 8000000 in
theorem signals_any (w:World) (p:Nat) (S:NtS) (N:NtD) (h:BoxAt w p S N) (h0:0≤N.ins) (h1:N.ins≤60000) (h2:N.init.length<huge) (h3:N.tabs.length<big) :
  Calls Try.prog 53 #[.pointer (some ⟨p,0,none⟩)] w fun e w'=>e = .returned (.int .i64 N.sigs)∧∃ n,w'=w.drewN n:=by
 have FG:Hid (∀ w,BoxAt w p S N→Calls Try.prog 67 #[.pointer (some ⟨p,0,none⟩)] w fun e w'=>e = .returned (.int .i64 N.first)∧∃ n,w'=w.drewN n):=fun w hb=>firstTable_any w p S N hb h0 h1 h2
 simp only [big,huge] at h2 h3
 have HH:=hidden h
 obtain ⟨lt,c0,c1,c2,c3,c4⟩:=h
 have e1:N.sigs=N.first+N.tabs.length:=rfl
 have e2:N.first=2+N.ins+N.init.length:=rfl
 rw [e1]
 generalize N.first=F at *
 go_enter Try.func53,Try.ntmps53
 go_wp2
 go_quiet ((go_at_call 67;exact Calls.quiet_of (FG.out _ (HH.out.to HH.out.lt (Below.drewN (Below.refl _ _) _)))))
 go_wp2
 go_ret
 exact ⟨ret_int (by omega),_,rfl⟩
theorem rowAt_flat {B:Nat} {w:World} {b sz:Nat} {els:List (List Value)} (hb:b<B) (hs:∀ l,l ∈ els→l.length=sz) (h:∀ (m:Nat) (v:Value),els.flatten[m]?=some v→w.cell? ⟨b,m,none⟩=some v):RowAt B w (some ⟨b,0,none⟩) sz els:=by
 intro hne
 refine ⟨b,0,rfl,hb,fun i cs hi j x hx=>?_⟩
 rw [Nat.zero_add]
 apply h
 clear h
 induction els generalizing i with
 | nil=>simp at hi
 | cons l r ih =>
  have hl:=hs l List.mem_cons_self
  cases i with
  | zero =>
   simp at hi;subst hi
   have hj:=(List.getElem?_eq_some_iff.1 hx).1
   rw [List.flatten_cons,List.getElem?_append_left (by omega)]
   simpa using hx
  | succ i =>
   have hi':r[i]?=some cs:=by simpa using hi
   rw [List.flatten_cons,List.getElem?_append_right (by rw [hl,Nat.succ_mul];omega)]
   have:=ih (fun l hl=>hs l (List.mem_cons_of_mem _ hl)) (List.ne_nil_of_mem (List.mem_of_getElem? hi')) i hi'
   rw [hl]
   rw [show (i+1)*sz+j - sz=i*sz+j by rw [Nat.succ_mul];omega]
   exact this
theorem cell_new {w:World} {cs:Array Value} {t b j:Nat} (h:b=w.heap.size):(w.alloc (.cells cs t)).cell? ⟨b,j,none⟩=cs[j]?:=by
 subst h;simp
theorem rowAt_nil {B:Nat} {w:World} {a:Option Addr} {sz:Nat}:RowAt B w a sz []:=fun h=>absurd rfl h
end Go.Proofs.Ytlaljeobdddegaa.L

namespace Go.Proofs.Ytlaljeobdddegaa.L
open Go.RowKit
def bV (b:Bool):Value:=.bool b
theorem add0 (g j:Nat):((⟨g,0,none⟩:Addr).add j)=⟨g,j,none⟩:=by unfold Addr.add;split <;> simp_all
theorem heap_new (w:World) (o:Obj):(w.alloc o).heap[w.heap.size]?=some o:=by unfold World.alloc;simp
theorem ownRow {α:Type} {g:α→Value} {w:World} {C:Nat} {e:TypeId} {v:Value} {n:Nat} {xs:List α} (h:w.ownsRow C e 1 v n (xs.map g)) :
  n=xs.length∧∃ aw cw,v = .slice aw n cw∧RowAt w.heap.size w aw 1 (xs.map fun x=>[g x]):=by
 have hl:n=xs.length:=by have:=h.1;simp at this;omega
 refine ⟨hl,?_⟩
 rcases h.2 with ⟨h0,h1⟩ | ⟨gg,cap,cur,hv,h1⟩
 ·refine ⟨none,0,by rw [h0,h1],fun he=>?_⟩
  exfalso;apply he;have:xs.length=0:=by omega
  rw [List.length_eq_zero_iff.1 this];rfl
 ·refine ⟨some ⟨gg,0,none⟩,cap,hv,fun _=>⟨gg,0,rfl,?_,?_⟩⟩
  ·exact (h.lt gg (by rw [hv];rfl)).2
  ·intro i cs hi j x hj
   have hc:=h.cells (g:=gg) (by rw [hv];rfl) i
   rw [List.getElem?_map] at hi
   cases hx:xs[i]? with
   | none=>rw [hx] at hi;cases hi
   | some y =>
    rw [hx] at hi
    have e:[g y]=cs:=by simpa using hi
    subst e
    cases j with
    | succ j=>simp at hj
    | zero =>
     have ex:g y=x:=by simpa using hj
     subst ex
     have:=hc (g y) (by rw [List.getElem?_map,hx];rfl)
     rw [add0] at this
     simpa using this
theorem grown_plain {V wr w5:World} (h:Below V.heap.size V wr) {o:Obj} {e:TypeId} {size n:Nat} {v:Value} {xs:List Value} (HO:wr.ownsRow V.heap.size e size v n xs) (hg:(wr.alloc o).grownBy w5 v.ownBlock):Below V.heap.size V w5 :=
 (h.alloc h.size o).grown hg (Nat.le_trans h.size (by simp)) (fun k hk=>(HO.lt k hk).1)
theorem own_below {w w':World} {B e size n:Nat} {v:Value} {xs:List Value} (h:w.ownsRow B e size v n xs) (hb:Below w.heap.size w w'):w'.ownsRow B e size v n xs :=
 h.kept (row:=none) ⟨hb.os,hb.tape,hb.output,hb.size,fun k hk _=>hb.block k hk⟩ (by
  cases hv:v.ownBlock with
  | none=>exact .inl rfl
  | some x=>exact .inr (by simp))
theorem own_mono {w:World} {C C' e size n:Nat} {v:Value} {xs:List Value} (h:w.ownsRow C e size v n xs) (hc:C'≤C):w.ownsRow C' e size v n xs:=by
 refine ⟨h.1,?_⟩
 rcases h.2 with hn | ⟨g,cap,cur,rfl,hg,rest⟩
 ·exact .inl hn
 ·exact .inr ⟨g,cap,cur,rfl,Nat.le_trans hc hg,rest⟩
theorem grown_refl (w:World) (row:Option Nat):w.grownBy w row:=⟨rfl,rfl,rfl,Nat.le_refl _,fun _ _ _=>rfl⟩
theorem grown_trans {a b c:World} {row:Option Nat} (h:a.grownBy b row) (h2:b.grownBy c row):a.grownBy c row :=
 ⟨h2.os.trans h.os,h2.tape.trans h.tape,h2.output.trans h.output,Nat.le_trans h.size h2.size,fun k hk hr=>(h2.block k (Nat.lt_of_lt_of_le hk h.size) hr).trans (h.block k hk hr)⟩
theorem below_grown {wc w':World} {row:Option Nat} {C:Nat} (hg:wc.grownBy w' row) (hC:C≤wc.heap.size) (hr:∀ k,row=some k→C≤k):Below C wc w' :=
 (Below.refl C wc).grown hg hC hr
theorem set_mid {α:Type} (a:List α) (x y:α) (r:List α):(a++x :: r).set a.length y=a++y :: r:=by
 induction a with
 | nil=>rfl
 | cons h t ih=>simp only [List.cons_append,List.length_cons,List.set_cons_succ,ih]
theorem set_next (a b:List Bool) (k:Nat) (y:Bool) (ha:a.length=k) (hb:k<b.length):((a++b.drop k).map bV).set k (.bool y)=(a++[y]++b.drop (k+1)).map bV:=by
 have:=set_mid (a.map bV) (bV b[k]) (.bool y) ((b.drop (k+1)).map bV)
 rw [List.length_map,ha] at this
 rw [List.drop_eq_getElem_cons hb,List.map_append,List.map_cons,this,List.map_append,List.map_append,List.append_assoc]
 rfl
theorem none_below {w w':World} (h:w.grownBy w' none):Below w.heap.size w w':=⟨h.os,h.tape,h.output,h.size,fun k hk=>h.block k hk (by simp)⟩
theorem info_bool0:(Try.prog.info? 4).map (fun i=>(i.zero,i.size,i.bytes))=some (some (.bool false),1,1):=by kernel_rfl
theorem info_bool:∃ i,Try.prog.info? 4=some i∧i.zero=some (.bool false)∧i.size=1∧i.bytes=1:=by
 have h:=info_bool0
 cases hi:Try.prog.info? 4 with
 | none=>rw [hi] at h;cases h
 | some i=>rw [hi] at h;simp at h;exact ⟨i,rfl,h.1,h.2.1,h.2.2⟩
theorem made_false (n:Nat):(madeCells (Value.bool false).cells (n*1)).toList=(List.replicate n false).map bV:=by
 rw [Nat.mul_one]
 apply List.ext_getElem?
 intro i
 by_cases h:i<n
 ·simp [madeCells,Value.cells,bV,h,Nat.mod_one]
 ·simp [madeCells,Value.cells,bV,h]
theorem rowB {B:Nat} {w:World} {a:Option Addr} {l:List Bool} (h:RowAt B w a 1 (l.map boolC)) {i:Nat} {x:Bool} (hx:l[i]?=some x):∃ b o,a=some ⟨b,o,none⟩∧b<B∧w.cell? ⟨b,o+i,none⟩=some (.bool x):=by
 obtain ⟨b,o,ha,hlt,hc⟩:=h.el hx
 refine ⟨b,o,ha,hlt,?_⟩
 have:=hc 0 (.bool x) rfl
 simpa using this
theorem info_sl0:(Try.prog.info? 30).map (fun i=>(i.zero,i.size,i.bytes))=some (some (.slice none 0 0),1,24):=by kernel_rfl
theorem info_sl:∃ i,Try.prog.info? 30=some i∧i.zero=some (.slice none 0 0)∧i.size=1∧i.bytes=24:=by
 have h:=info_sl0
 cases hi:Try.prog.info? 30 with
 | none=>rw [hi] at h;cases h
 | some i=>rw [hi] at h;simp at h;exact ⟨i,rfl,h.1,h.2.1,h.2.2⟩
def inRow (n:Nat) (row:List Bool):List Bool:=(List.range n).map fun i=>row[i]?.getD false
theorem inRow_length (n:Nat) (row:List Bool):(inRow n row).length=n:=by unfold inRow;simp
theorem inRow_next (n:Nat) (row:List Bool):inRow (n+1) row=inRow n row++[row[n]?.getD false]:=by unfold inRow;rw [List.range_succ,List.map_append];rfl
def BS (w:World) (v:Value) (l:List Bool):Prop:=(v = .slice none 0 0∧l=[])∨∃ b o c,v = .slice (some ⟨b,o,none⟩) l.length c∧b<w.heap.size∧∀ (i:Nat) (x:Bool),l[i]?=some x→w.cell? ⟨b,o+i,none⟩=some (.bool x)
theorem BS.to {w w':World} {v:Value} {l:List Bool} (h:BS w v l) (hb:Below w.heap.size w w'):BS w' v l:=by
 rcases h with h | ⟨b,o,c,hv,hlt,hc⟩
 ·exact .inl h
 ·exact .inr ⟨b,o,c,hv,Nat.lt_of_lt_of_le hlt hb.size,fun i x hx=>(hb.cell (p:=⟨b,o+i,none⟩) hlt).trans (hc i x hx)⟩
theorem BS.of {w:World} {C n:Nat} {v:Value} {l:List Bool} (h:w.ownsRow C 4 1 v n (l.map bV)):BS w v l:=by
 have hl:n=l.length:=by have:=h.1;simp at this;omega
 rcases h.2 with ⟨h0,h1⟩ | ⟨g,cap,cur,hv,h1⟩
 ·exact .inl ⟨h0,List.eq_nil_of_length_eq_zero (by omega)⟩
 ·refine .inr ⟨g,0,cap,by rw [hv,hl],(h.lt g (by rw [hv];rfl)).2,fun i x hx=>?_⟩
  have:=h.cells (g:=g) (by rw [hv];rfl) i (.bool x) (by rw [List.getElem?_map,hx];rfl)
  rw [add0] at this
  simpa using this
theorem BS.row {w:World} {v:Value} {l:List Bool} (h:BS w v l):∃ a c,v = .slice a l.length c∧RowAt w.heap.size w a 1 (l.map boolC):=by
 rcases h with ⟨rfl,rfl⟩ | ⟨b,o,c,hv,hlt,hc⟩
 ·exact ⟨none,0,rfl,rowAt_nil⟩
 ·refine ⟨_,c,hv,fun _=>⟨b,o,rfl,hlt,fun i cs hi j x hx=>?_⟩⟩
  rw [List.getElem?_map] at hi
  cases hy:l[i]? with
  | none=>rw [hy] at hi;cases hi
  | some y =>
   rw [hy] at hi
   have e:[Value.bool y]=cs:=by simpa [boolC] using hi
   subst e
   cases j with
   | succ j=>simp at hx
   | zero =>
    have ex:Value.bool y=x:=by simpa using hx
    subst ex
    simpa using hc i y hy
theorem wpList_append_any {P:Program} (w:World) {ops:Array Oper} {rest:List Oper} {o:Oper} {a:Act} {Q:Exit→Act→World→Prop} (hgd:o.guard=none) (s x:Operand) (t:TypeId)
  (ho:o.op = .call { callee:=.builtin .append,args:=#[s,x],argTypes:=#[t,t] })
  (base:Nat) (e:TypeId) (i:TypeInfo) (z:Value) (bytes:Nat) (ht:P.underlying t=some (.slice e)) (hi:P.info? e=some i) (hz:i.zero=some z)
  (hsize:i.size=1) (hby:i.bytes=bytes) (hzs:z.cells.size=1)
  (v:Value) (n:Nat) (xs:List Value) (hs:a.eval s=v) (hown:w.ownsRow base e 1 v n xs)
  (xv:Value) (l:List Bool) (hx:a.eval x=xv) (hb:BS w xv l)
  (h63:n+l.length≤maxLen) (hbytes:(n+l.length)*bytes≤140737488355328) (hbase:base≤w.heap.size)
  (h:∀ v' w',w'.ownsRow base e 1 v' (n+l.length) (xs++l.map bV)→w.grownBy w' v.ownBlock→wpList P ops Q rest (a.put o.dst v') w') :
  wpList P ops Q (o :: rest) a w:=by
 rcases hb with ⟨rfl,rfl⟩ | ⟨b,off,c,rfl,hlt,hc⟩
 ·refine wpList_plain hgd fun K hK=>?_
  have hr:=run_append_owned_none (P:=P) w base t o.type e i 1 ht hi v n xs hown
  unfold Oper.wp execOp
  simp only [ho,resolve,invoke,builtin,Sem.run_bind,Sem.run_pure,Result.andThen_ok,List.map_toArray,List.map_cons,List.map_nil,hs,hx,hr]
  exact hK _ _ (h v w (by simpa using hown) (World.grownBy.refl _ _))
 ·refine wpList_append_own_at w hgd s x t ho base e i z 1 bytes ht hi hz hsize hby hzs (by decide) v n xs hs hown ⟨b,off,none⟩ l.length c (l.map bV) hx (by simp) ?_ ?_ h63 hbytes hbase ?_
  ·intro j u hu
   rw [List.getElem?_map] at hu
   cases hl:l[j]? with
   | none=>rw [hl] at hu;cases hu
   | some y =>
    rw [hl] at hu
    have e:Value.bool y=u:=by simpa [bV] using hu
    subst e
    have e2:(⟨b,off,none⟩:Addr).add j=⟨b,off+j,none⟩:=by unfold Addr.add;split <;> simp_all
    rw [e2];exact hc j y hl
  ·intro u hu
   obtain ⟨y,_,rfl⟩:=List.mem_map.1 hu
   rfl
  ·intro v' w' h1 h2 _ _
   exact h v' w' h1 h2
theorem grown_bare {V wr w5:World} (h:Below V.heap.size V wr) {e:TypeId} {size n:Nat} {v:Value} {xs:List Value} (HO:wr.ownsRow V.heap.size e size v n xs) (hg:wr.grownBy w5 v.ownBlock):Below V.heap.size V w5 :=
 h.grown hg h.size (fun k hk=>(HO.lt k hk).1)
structure TR where
 a:Option Addr
 c:Nat
 l:List Bool
def TR.cells (t:TR):List Value:=[.slice t.a t.l.length t.c]
structure TrAt (B:Nat) (w:World) (a:Option Addr) (trs:List TR):Prop where
 row:RowAt B w a 1 (trs.map TR.cells)
 each:∀ t,t ∈ trs→RowAt B w t.a 1 (t.l.map boolC)
 len:trs.length≤5864062014805
theorem TrAt.to {B:Nat} {w w':World} {a:Option Addr} {trs:List TR} (h:TrAt B w a trs) (hb:Below B w w'):TrAt B w' a trs:=⟨h.row.to hb,fun t ht=>(h.each t ht).to hb,h.len⟩
theorem TrAt.mono {B B':Nat} {w:World} {a:Option Addr} {trs:List TR} (h:TrAt B w a trs) (hb:B≤B'):TrAt B' w a trs:=⟨h.row.mono hb,fun t ht=>(h.each t ht).mono hb,h.len⟩
structure RD where
 v:Value
 l:List Bool
def Far (a b:Value):Prop:=∀ x,a.ownBlock=some x→b.ownBlock≠some x
theorem BS.blk {w:World} {v:Value} {l:List Bool} (h:BS w v l):∀ x,v.ownBlock=some x→x<w.heap.size:=by
 intro x hx
 rcases h with ⟨rfl,_⟩ | ⟨b,o,c,rfl,hlt,_⟩
 ·cases hx
 ·cases hx;exact hlt
theorem BS.kept {w w':World} {v:Value} {l:List Bool} {row:Option Nat} (h:BS w v l) (hg:w.grownBy w' row) (hne:∀ x,row=some x→v.ownBlock≠some x):BS w' v l:=by
 rcases h with h | ⟨b,o,c,rfl,hlt,hc⟩
 ·exact .inl h
 ·refine .inr ⟨b,o,c,rfl,Nat.lt_of_lt_of_le hlt hg.size,fun i x hx=>?_⟩
  refine (World.cell?_of_block (w:=w) (a:=⟨b,o+i,none⟩) (hg.block b hlt ?_)).trans (hc i x hx)
  intro e
  exact hne b e.symm rfl
theorem Far.new {w:World} {a b:Value} {l:List Bool} (h:Far a b) (hb:BS w b l) {g H m cap:Nat} (hg:a.ownBlock=some g∨g=H) (hH:w.heap.size≤H):Far (.slice (some ⟨g,0,none⟩) m cap) b:=by
 intro x hx
 have e:g=x:=by cases hx;rfl
 subst e
 rcases hg with hg | hg
 ·exact h g hg
 ·intro hb2
  have:=hb.blk g hb2
  omega
theorem far_own {w w':World} {C e e' n m C':Nat} {a b:Value} {xs ys:List Value} (ha:w.ownsRow C e 1 a n xs) (hb:w'.ownsRow C' e' 1 b m ys) (hC:w.heap.size≤C'):Far a b:=by
 intro x hx hy
 have h1:=(ha.lt x hx).2
 have h2:=(hb.lt x hy).1
 omega
end Go.Proofs.Ytlaljeobdddegaa.L

namespace Go.Proofs.Ytlaljeobdddegaa.L
open Go.RowKit
set_option maxRecDepth 100000 in
set_option maxHeartbeats 8000000 in
theorem sameBools_any (w:World) (a1 a2:Option Addr) (c1 c2:Nat) (l:List Bool) (hl:l.length<big) (R1:Hid (RowAt w.heap.size w a1 1 (l.map boolC))) (R2:Hid (RowAt w.heap.size w a2 1 (l.map boolC))) :
  Calls Try.prog 9 #[.slice a1 l.length c1,.slice a2 l.length c2] w fun e w'=>e = .returned (.bool true)∧∃ q,w'=w.drewN q:=by
 simp only [big] at hl
 go_enter Try.func9,Try.ntmps9
 go_wp2_with fail
 go_loopw [5] (fun i' w'=>∃ (k:Nat),k≤l.length∧i' = .int .i64 k∧Hid (∃ q,w'=w.drewN q)) (fun i' _=>l.length - (intOf i').toNat)
 case atStart=>exact ⟨0,Nat.zero_le _,rfl,⟨0,rfl⟩⟩
 case round =>
  obtain ⟨k,hk,rfl,HQ⟩:=hrel
  obtain ⟨q,rfl⟩:=HQ.out
  by_cases hlt:k<l.length
  ·obtain ⟨x,hx⟩:=getElem_lt hlt
   obtain ⟨d1,p1,rfl,-,cx1⟩:=rowB R1.out hx
   obtain ⟨d2,p2,rfl,-,cx2⟩:=rowB R2.out hx
   have hltI:(k:Int)<(l.length:Int):=by omega
   have e3:IntKind.i64.wrap ((k:Int)+1)=(k:Int)+1:=wrapI _ (by omega) (by omega)
   clear hx HQ
   cases x
   ·go_wp2_with fail
    go_quiet (fail)
    go_wp2
    go_roundw
    case measure=>simp [intOf];omega
    case rel=>exact ⟨k+1,by omega,by simp,⟨_,rfl⟩⟩
   ·go_wp2_with fail
    go_quiet (fail)
    go_wp2
    go_roundw
    case measure=>simp [intOf];omega
    case rel=>exact ⟨k+1,by omega,by simp,⟨_,rfl⟩⟩
  ·have hge:¬ ((k:Int)<(l.length:Int)):=by omega
   clear HQ
   go_wp2
   go_ret
   exact ⟨rfl,_,rfl⟩
def RowsAt (w:World) (a:Option Addr) (rows:List RD):Prop:=∀ (i:Nat) (r:RD),rows[i]?=some r→∃ b o,a=some ⟨b,o,none⟩∧b<w.heap.size∧w.cell? ⟨b,o+i,none⟩=some r.v∧BS w r.v r.l
set_option maxRecDepth 100000 in
set_option maxHeartbeats 8000000 in
theorem sameRows_any (w:World) (a1 a2:Option Addr) (c1 c2:Nat) (ra rb:List RD) (n:Nat) (hn1:ra.length=n) (hn2:rb.length=n) (hl:n<big) (H1:Hid (RowsAt w a1 ra)) (H2:Hid (RowsAt w a2 rb)) (HE:Hid (ra.map RD.l=rb.map RD.l)) (hbig:∀ r,r ∈ ra→r.l.length<big) :
  Calls Try.prog 11 #[.slice a1 n c1,.slice a2 n c2] w fun e w'=>e = .returned (.bool true)∧∃ q,w'=w.drewN q:=by
 simp only [big] at hl
 go_enter Try.func11,Try.ntmps11
 go_wp2_with fail
 go_loopw [5] (fun i' w'=>∃ (k:Nat),k≤n∧i' = .int .i64 k∧Hid (∃ q,w'=w.drewN q)) (fun i' _=>n - (intOf i').toNat)
 case atStart=>exact ⟨0,Nat.zero_le _,rfl,⟨0,rfl⟩⟩
 case round =>
  obtain ⟨k,hk,rfl,HQ⟩:=hrel
  have HBw:Hid (Below w.heap.size w wr):=by obtain ⟨q,rfl⟩:=HQ.out;exact Below.drewN (Below.refl _ _) _
  by_cases hlt:k<n
  ·obtain ⟨r1,hr1⟩:∃ r,ra[k]?=some r:=getElem_lt (by omega)
   obtain ⟨r2,hr2⟩:∃ r,rb[k]?=some r:=getElem_lt (by omega)
   obtain ⟨d1,p1,rfl,l1,cx1,b1⟩:=H1.out k r1 hr1
   obtain ⟨d2,p2,rfl,l2,cx2,b2⟩:=H2.out k r2 hr2
   have el:r1.l=r2.l:=by
    have:=congrArg (fun l=>l[k]?) HE.out
    simpa [hr1,hr2] using this
   have hbl:=hbig r1 (List.mem_of_getElem? hr1)
   rw [←el] at b2
   obtain ⟨x1,z1,e1,w1⟩:=b1.row
   obtain ⟨x2,z2,e2,w2⟩:=b2.row
   replace cx1:=(HBw.out.cell (p:=⟨d1,p1+k,none⟩) l1).trans cx1
   replace cx2:=(HBw.out.cell (p:=⟨d2,p2+k,none⟩) l2).trans cx2
   rw [e1] at cx1
   rw [e2] at cx2
   have SB:Hid (∀ v,Below w.heap.size w v→Calls Try.prog 9 #[.slice x1 r1.l.length z1,.slice x2 r1.l.length z2] v fun e w'=>e = .returned (.bool true)∧∃ q,w'=v.drewN q):=fun v hv=>sameBools_any v x1 x2 z1 z2 r1.l hbl ((w1.to hv).mono hv.size) ((w2.to hv).mono hv.size)
   generalize r1.l.length=ln at *
   have hltI:(k:Int)<(n:Int):=by omega
   have e3:IntKind.i64.wrap ((k:Int)+1)=(k:Int)+1:=wrapI _ (by omega) (by omega)
   clear hr1 hr2 el b1 b2 w1 w2 e1 e2 hbl l1 l2
   go_wp2_with fail
   go_quiet ((go_at_call 9;exact Calls.quiet_of (SB.out _ (Below.drewN HBw.out _))))
   go_wp2
   go_roundw
   case measure=>simp [intOf];omega
   case rel =>
    obtain ⟨q,hq⟩:=HQ.out
    exact ⟨k+1,by omega,by simp,⟨q+nq,by rw [hq,World.drewN_drewN]⟩⟩
  ·have hge:¬ ((k:Int)<(n:Int)):=by omega
   go_wp2
   go_ret
   exact ⟨rfl,HQ.out⟩
end Go.Proofs.Ytlaljeobdddegaa.L

namespace Go.Proofs.Ytlaljeobdddegaa.L
open Go.RowKit
def sV (v:List Bool) (s:Int):Bool:=v[s.toNat]?.getD false
def spell:List Bool→Nat
 | []=>0
 | b :: r=>(if b then 1 else 0)+2*spell r
theorem spell_snoc (l:List Bool) (b:Bool):spell (l++[b])=spell l+(if b then 2 ^ l.length else 0):=by
 induction l with
 | nil=>cases b <;> rfl
 | cons a r ih =>
  rw [List.cons_append,spell,spell,ih,List.length_cons,Nat.pow_succ]
  cases a <;> cases b <;> simp <;> omega
theorem spell_lt (l:List Bool):spell l<2 ^ l.length:=by
 induction l with
 | nil=>decide
 | cons a r ih =>
  rw [spell,List.length_cons,Nat.pow_succ]
  cases a <;> simp <;> omega
def bitAt (bits:Int) (k:Nat):Bool:=decide (bits / 2 ^ k % 2=1)
def tabV (d:TbD) (v:List Bool):Bool:=bitAt d.bits (spell (d.ins.map (sV v)))
theorem wrap64_of (x:Int) (h0:-9223372036854775808≤x) (h1:x<9223372036854775808):wrap64 x=x:=by
 unfold wrap64;omega
set_option maxRecDepth 100000 in
set_option maxHeartbeats 8000000 in
theorem told_doc (w:World) (a:Option Addr) (c:Nat) (l:List Bool) (R:RowAt w.heap.size w a 1 (l.map boolC)) (hl:l.length≤4) (bits:Int) (h0:0≤bits) :
  Calls Try.prog 23 #[.int .i64 bits,.slice a l.length c] w fun e w'=>e = .returned (.bool (bitAt bits (spell l)))∧w'=w:=by
 have HR:=hidden R
 clear R
 obtain ⟨m,HM⟩:∃ m,Hid (m=l.length):=⟨_,rfl⟩
 obtain ⟨r,HRR⟩:∃ r,Hid (bitAt bits (spell l)=r):=⟨_,rfl⟩
 rw [HRR.out]
 rw [←HM.out] at hl
 rw [←HM.out]
 go_enter Try.func23,Try.ntmps23
 go_wp2_with fail
 go_loopw [5,6] (fun s' i' w'=>∃ (k sp:Nat),k≤m∧i' = .int .i64 k∧s' = .int .i64 sp∧Hid (sp=spell (l.take k))∧Hid (w'=w)) (fun _ i' _=>m - (intOf i').toNat)
 case atStart=>exact ⟨0,0,Nat.zero_le _,rfl,rfl,rfl,rfl⟩
 case round =>
  obtain ⟨k,sp,hk,rfl,rfl,HSP,HW⟩:=hrel
  have hsp:sp<16:=by
   rw [HSP.out]
   have:=spell_lt (l.take k)
   have h2:(l.take k).length≤4:=by rw [List.length_take];have:=HM.out;omega
   have:=Nat.pow_le_pow_right (show 0<2 by decide) h2
   omega
  by_cases hlt:k<m
  ·have hltI:(k:Int)<(m:Int):=by omega
   obtain ⟨x,hd⟩:=getElem_lt (show k<l.length by rw [←HM.out];exact hlt)
   obtain ⟨b,o,ea,hlb,hc⟩:=rowB HR.out hd
   have c0:wr.cell? ⟨b,o+k,none⟩=some (.bool x):=by rw [HW.out];exact hc
   have e2:IntKind.i64.wrap ((k:Int)+1)=(k:Int)+1:=wrapI _ (by omega) (by omega)
   have HNX:Hid (spell (l.take (k+1))=sp+(if x then 2 ^ k else 0)):=by
    show _=_
    rw [take_next _ k _ hd,spell_snoc,←HSP.out,List.length_take]
    congr 2
    rw [Nat.min_eq_left (by have:=HM.out;omega)]
   rw [ea]
   clear hd hc hlb ea HSP
   cases x
   ·go_wp2
    go_roundw
    case measure=>simp [intOf];omega
    case rel=>exact ⟨k+1,sp,by omega,by simp,rfl,HNX.out.symm,HW.out⟩
   ·have eu:IntKind.u64.wrap (k:Int)=(k:Int):=by rw [IntKind.wrap_u64];omega
    obtain ⟨P,HP⟩:∃ P:Nat,Hid (P=2 ^ k):=⟨_,rfl⟩
    have hP:P≤8:=by
     rw [HP.out]
     have:=Nat.pow_le_pow_right (show 0<2 by decide) (show k≤3 by omega)
     omega
    have hPI:(2:Int) ^ k=(P:Int):=by rw [HP.out];simp
    have eP:wrap64 (2 ^ min (k:Int).toNat 64)=(P:Int):=by
     rw [show min (k:Int).toNat 64=k by omega,hPI]
     exact wrap64_of _ (by omega) (by omega)
    have eP2:wrap64 (2 ^ k)=(P:Int):=by
     rw [hPI]
     exact wrap64_of _ (by omega) (by omega)
    have eS:IntKind.i64.wrap ((sp:Int)+(P:Int))=(sp:Int)+(P:Int):=wrapI _ (by omega) (by omega)
    go_wp2
    go_roundw
    case measure=>simp [intOf];omega
    case rel=>exact ⟨k+1,sp+P,by omega,by simp,by simp,by show _=_;rw [HNX.out,HP.out];rfl,HW.out⟩
  ·have hge:¬ ((k:Int)<(m:Int)):=by omega
   have HF:Hid (r=decide (bits / 2 ^ sp % 2=1)):=by
    have:=HSP.out
    rw [List.take_of_length_le (by have:=HM.out;omega)] at this
    rw [←HRR.out,←this]
    exact rfl
   have eu:IntKind.u64.wrap (sp:Int)=(sp:Int):=by rw [IntKind.wrap_u64];omega
   clear HSP
   have hq:0≤bits / 2 ^ sp:=Int.ediv_nonneg h0 (Int.le_of_lt (Int.pow_pos (by decide)))
   have HQ:Hid (((bits / 2 ^ sp).tmod 2 == 1)=r):=by
    show _=_
    rw [HF.out,Int.tmod_eq_emod_of_nonneg hq,Bool.eq_iff_iff]
    simp
   clear HF hq
   go_wp2
   go_ret
   exact ⟨ret_bool HQ.out,HW.out⟩
def mostI (a b:Int):Int:=if b > a then b else a
set_option maxRecDepth 100000 in
set_option maxHeartbeats 8000000 in
theorem most_doc (w:World) (a b:Int) :
  Calls Try.prog 25 #[.int .i64 a,.int .i64 b] w fun e w'=>e = .returned (.int .i64 (mostI a b))∧w'=w:=by
 unfold mostI
 by_cases h:b > a
 ·rw [if_pos h]
  go_enter Try.func25,Try.ntmps25
  go_wp2
  go_ret
  exact ⟨rfl,rfl⟩
 ·rw [if_neg h]
  go_enter Try.func25,Try.ntmps25
  go_wp2
  go_ret
  exact ⟨rfl,rfl⟩
end Go.Proofs.Ytlaljeobdddegaa.L

namespace Go.Proofs.Ytlaljeobdddegaa.L
open Go.RowKit
def iV (x:Int):Value:=.int .i64 x
def maxD (ds:List Int) (l:List Int):Int:=l.foldl (fun m s=>mostI m (ds.getD s.toNat 0)) 0
def dsN (n0:Nat) (tabs:List TbD):List Int:=tabs.foldl (fun ds t=>ds++[maxD ds t.ins+1]) (List.replicate n0 0)
theorem maxD_snoc (ds l:List Int) (s:Int):maxD ds (l++[s])=mostI (maxD ds l) (ds.getD s.toNat 0):=by unfold maxD;rw [List.foldl_append];rfl
theorem dsN_snoc (n0:Nat) (l:List TbD) (t:TbD):dsN n0 (l++[t])=dsN n0 l++[maxD (dsN n0 l) t.ins+1]:=by unfold dsN;rw [List.foldl_append];rfl
theorem maxD_le {ds:List Int} {b:Int} (hb:0≤b) (h:∀ x,x ∈ ds→0≤x∧x≤b) (l:List Int):0≤maxD ds l∧maxD ds l≤b:=by
 have key:∀ (l:List Int) (m:Int),0≤m∧m≤b→0≤l.foldl (fun m s=>mostI m (ds.getD s.toNat 0)) m∧l.foldl (fun m s=>mostI m (ds.getD s.toNat 0)) m≤b:=by
  intro l
  induction l with
  | nil=>intro m hm;exact hm
  | cons a r ih =>
   intro m hm
   refine ih _ ?_
   have hd:0≤ds.getD a.toNat 0∧ds.getD a.toNat 0≤b:=by
    rw [List.getD_eq_getElem?_getD]
    cases e:ds[a.toNat]? with
    | none=>exact ⟨by simp,by simpa using hb⟩
    | some x=>exact h x (List.mem_of_getElem? e)
   show 0≤mostI m (ds.getD a.toNat 0)∧mostI m (ds.getD a.toNat 0)≤b
   unfold mostI
   split <;> omega
 exact key l 0 ⟨by omega,hb⟩
theorem dsN_len (n0:Nat) (tabs:List TbD):(dsN n0 tabs).length=n0+tabs.length:=by
 have key:∀ (t:List TbD) (d:List Int),(t.foldl (fun ds t=>ds++[maxD ds t.ins+1]) d).length=d.length+t.length:=by
  intro t
  induction t with
  | nil=>intro d;rfl
  | cons a r ih=>intro d;rw [List.foldl_cons,ih];simp;omega
 unfold dsN
 rw [key];simp
theorem dsN_le (n0:Nat) (tabs:List TbD):∀ x,x ∈ dsN n0 tabs→0≤x∧x≤tabs.length:=by
 have key:∀ (t:List TbD) (d:List Int) (b:Int),0≤b→(∀ x,x ∈ d→0≤x∧x≤b)→∀ x,x ∈ t.foldl (fun ds t=>ds++[maxD ds t.ins+1]) d→0≤x∧x≤b+t.length:=by
  intro t
  induction t with
  | nil=>intro d b hb h x hx;have:=h x hx;simp;omega
  | cons a r ih =>
   intro d b hb h x hx
   have:=ih (d++[maxD d a.ins+1]) (b+1) (by omega) (fun y hy=>by
    rcases List.mem_append.1 hy with hy | hy
    ·have:=h y hy;omega
    ·rw [List.mem_singleton.1 hy]
     have:=maxD_le hb h a.ins
     omega) x hx
   rw [List.length_cons]
   omega
 intro x hx
 have:=key tabs (List.replicate n0 0) 0 (by omega) (fun y hy=>by rw [(List.mem_replicate.1 hy).2];omega) x hx
 omega
def depN (N:NtD):Int:=maxD (dsN N.first.toNat N.tabs) (N.outs++N.next)
theorem info_int0:(Try.prog.info? 3).map (fun i=>(i.zero,i.size,i.bytes))=some (some (.int .i64 0),1,8):=by kernel_rfl
theorem info_int:∃ i,Try.prog.info? 3=some i∧i.zero=some (.int .i64 0)∧i.size=1∧i.bytes=8:=by
 have h:=info_int0
 cases hi:Try.prog.info? 3 with
 | none=>rw [hi] at h;cases h
 | some i=>rw [hi] at h;simp at h;exact ⟨i,rfl,h.1,h.2.1,h.2.2⟩
theorem made_zero (n:Nat):(madeCells (Value.int .i64 0).cells (n*1)).toList=(List.replicate n (0:Int)).map iV:=by
 rw [Nat.mul_one]
 apply List.ext_getElem?
 intro i
 by_cases h:i<n
 ·simp [madeCells,Value.cells,iV,h,Nat.mod_one]
 ·simp [madeCells,Value.cells,iV,h]
def dRow (N:NtD) (f k:Nat):List Int:=dsN f (N.tabs.take k)++List.replicate (N.tabs.length - k) 0
theorem dRow_len (N:NtD) (f k:Nat) (hk:k≤N.tabs.length):(dRow N f k).length=f+N.tabs.length:=by
 unfold dRow
 rw [List.length_append,dsN_len,List.length_take,List.length_replicate];omega
theorem dRow_at {N:NtD} {f k:Nat} {s:Int} (hk:k≤N.tabs.length) (h0:0≤s) (h1:s<(f:Int)+k):(dRow N f k)[s.toNat]?=some ((dsN f (N.tabs.take k)).getD s.toNat 0):=by
 have hl:s.toNat<(dsN f (N.tabs.take k)).length:=by rw [dsN_len,List.length_take];omega
 unfold dRow
 rw [List.getElem?_append_left hl,List.getD_eq_getElem?_getD,List.getElem?_eq_getElem hl]
 rfl
theorem dRow_next {N:NtD} {f k:Nat} {t:TbD} (h:N.tabs[k]?=some t):((dRow N f k).map iV).set (f+k) (iV (maxD (dsN f (N.tabs.take k)) t.ins+1))=(dRow N f (k+1)).map iV:=by
 have hk:k<N.tabs.length:=(List.getElem?_eq_some_iff.1 h).1
 have hl:(dsN f (N.tabs.take k)).length=f+k:=by rw [dsN_len,List.length_take];omega
 rw [←List.map_set]
 congr 1
 unfold dRow
 rw [take_next _ k _ h,dsN_snoc,show N.tabs.length - k=(N.tabs.length - (k+1))+1 by omega,List.replicate_succ,List.append_assoc]
 rw [List.set_append_right _ _ (by omega),hl]
 simp
structure NtIn (N:NtD):Prop where
 i0:0≤N.ins
 i1:N.ins≤60000
 il:N.init.length≤17592186044416
 tl:N.tabs.length≤4398046511104
 ol:N.outs.length≤60000
 nl:N.next.length=N.init.length
 t4:∀ d,d ∈ N.tabs→d.ins.length≤4∧0≤d.bits
 ti:∀ (k:Nat) (d:TbD),N.tabs[k]?=some d→∀ s,s ∈ d.ins→0≤s∧s<N.first+k
 ni:∀ s,s ∈ N.next→0≤s∧s<N.sigs
 oi:∀ s,s ∈ N.outs→0≤s∧s<N.sigs
theorem ntIn_of {N:NtD} (h:NtOk N=true) (h1:N.init.length≤17592186044416) (h2:N.tabs.length≤4398046511104):NtIn N:=by
 unfold NtOk at h
 rw [Bool.and_eq_true,Bool.and_eq_true,Bool.and_eq_true] at h
 obtain ⟨⟨⟨a,b⟩,c⟩,d⟩:=h
 obtain ⟨s0,s1,s2,s3⟩:=of_decide_eq_true a
 have ht:∀ (k:Nat) (e:TbD),N.tabs[k]?=some e→e.ok (N.first+k)=true:=fun k e he=>by
  have:=List.all_eq_true.1 b k (List.mem_range.2 (List.getElem?_eq_some_iff.1 he).1)
  rwa [tabOk_of he] at this
 have hk:∀ (k:Nat) (e:TbD),N.tabs[k]?=some e→(e.ins.length≤4∧0≤e.bits)∧∀ s,s ∈ e.ins→0≤s∧s<N.first+k:=fun k e he=>by
  have:=ht k e he
  unfold TbD.ok at this
  rw [Bool.and_eq_true,Bool.and_eq_true] at this
  obtain ⟨⟨p,q⟩,r⟩:=this
  exact ⟨⟨of_decide_eq_true p,(of_decide_eq_true r).1⟩,fun s hs=>of_decide_eq_true (List.all_eq_true.1 q s hs)⟩
 refine ⟨s0,s1,h1,h2,s2,s3,fun e he=>?_,fun k e he=>(hk k e he).2,fun s hs=>of_decide_eq_true (List.all_eq_true.1 c s hs),fun s hs=>of_decide_eq_true (List.all_eq_true.1 d s hs)⟩
 obtain ⟨k,hk',rfl⟩:=List.getElem_of_mem he
 exact (hk k _ (List.getElem?_eq_getElem hk')).1
end Go.Proofs.Ytlaljeobdddegaa.L
