import Derived.Test.YtlaljeobdddegaaJ33
namespace Go.Proofs.Ytlaljeobdddegaa
open Go.RowKit Mp
theorem tb_bit (x i:Nat):x / 2 ^ i % 2=if x.testBit i then 1 else 0:=by
 rw [Nat.testBit_eq_decide_div_mod_eq]
 have:x / 2 ^ i % 2=0∨x / 2 ^ i % 2=1:=by omega
 rcases this with h | h
 ·rw [h];simp
 ·rw [h];simp
theorem one_bit (b:Bool) (p q:Nat):((if b then 1 else 0)*2 ^ p).testBit q=(b && decide (p=q)):=by
 cases b
 ·simp
 ·simp only [if_true,Nat.one_mul,Bool.true_and];exact Nat.testBit_two_pow
theorem mkB_or (k:Nat) (f:Nat→Bool):mkB k f ||| ((if f k then 1 else 0)*2 ^ k)=mkB (k+1) f:=by
 refine nat_eq (fun q=>?_)
 rw [Nat.testBit_or,one_bit,mkB_bit,mkB_bit]
 by_cases h1:q<k
 ·have h2:q<k+1:=by omega
  have h3:¬ k=q:=by omega
  simp [h1,h2,h3]
 ·by_cases h2:k=q
  ·subst h2;simp
  ·have h3:¬ q<k+1:=by omega
   simp [h1,h2,h3]
def spS (ps:List Nat) (k:Nat):Nat→Nat
 | 0=>0
 | j+1=>spS ps k j ||| ((k / 2 ^ j % 2)*2 ^ (ps.getD j 0))
theorem spS_bit (ps:List Nat) (k j q:Nat):(spS ps k j).testBit q=(List.range j).any fun i=>decide (ps.getD i 0=q) && k.testBit i:=by
 induction j with
 | zero=>simp [spS]
 | succ j ih =>
  unfold spS
  rw [Nat.testBit_or,ih,tb_bit,one_bit,List.range_succ,List.any_append]
  simp [Bool.and_comm]
theorem spS_all {ps:List Nat} (h:∀ p,p ∈ ps→p<4) (k:Nat):spS ps k ps.length=putB ps k:=by
 refine nat_eq (fun q=>?_)
 unfold putB
 rw [spS_bit,mkB_bit]
 have e:(List.range ps.length).any (fun i=>decide (ps.getD i 0=q) && k.testBit i)=(List.range ps.length).any (fun i=>decide (ps[i]?=some q) && k.testBit i):=any_congr' (fun i hi=>by
  have hi:=List.mem_range.1 hi
  have:ps[i]?=some (ps.getD i 0):=by rw [List.getD_eq_getElem?_getD,List.getElem?_eq_getElem hi];rfl
  rw [this]
  simp)
 rw [e]
 by_cases hq:q<4
 ·simp [hq]
 ·simp only [hq,decide_false,Bool.false_and]
  rw [List.any_eq_false]
  intro i _ hh
  rw [Bool.and_eq_true] at hh
  exact hq (h q (List.mem_of_getElem? (of_decide_eq_true hh.1)))
def spB (ps:List Nat) (k:Nat):Nat→Nat
 | 0=>0
 | j+1=>spB ps k j ||| ((k / 2 ^ (ps.getD j 0) % 2)*2 ^ j)
theorem spB_bit (ps:List Nat) (k j q:Nat):(spB ps k j).testBit q=(decide (q<j) && k.testBit (ps.getD q 0)):=by
 induction j with
 | zero=>simp [spB]
 | succ j ih =>
  unfold spB
  rw [Nat.testBit_or,ih,tb_bit,one_bit]
  by_cases h1:q<j
  ·have h2:q<j+1:=by omega
   have h3:¬ j=q:=by omega
   simp [h1,h2,h3]
  ·by_cases h2:j=q
   ·subst h2;simp
   ·have h3:¬ q<j+1:=by omega
    simp [h1,h2,h3]
theorem spB_all (ps:List Nat) (k:Nat):spB ps k ps.length=spAt ps k:=by
 refine nat_eq (fun q=>?_)
 rw [spB_bit,spAt_bit]
 by_cases h:q<ps.length
 ·rw [List.getElem?_eq_getElem h,List.getD_eq_getElem?_getD,List.getElem?_eq_getElem h]
  simp [h]
 ·rw [List.getElem?_eq_none (by omega)]
  simp [h]
theorem spS_lt {ps:List Nat} (h:∀ p,p ∈ ps→p<4) (k:Nat):∀ j,j≤ps.length→spS ps k j<16
 | 0,_=>by show 0<16;omega
 | j+1,hj=>by
  unfold spS
  refine Nat.or_lt_two_pow (n:=4) (spS_lt h k j (by omega)) ?_
  have hp:ps.getD j 0<4:=h _ (by rw [List.getD_eq_getElem?_getD,List.getElem?_eq_getElem (show j<ps.length by omega)];exact List.getElem_mem _)
  have h1:2 ^ (ps.getD j 0)≤2 ^ 3:=Nat.pow_le_pow_right (by omega) (by omega)
  have h2:k / 2 ^ j % 2≤1:=by omega
  have h3:=Nat.mul_le_mul h2 h1
  omega
theorem spB_lt (ps:List Nat) (k:Nat):∀ j,spB ps k j<2 ^ j
 | 0=>by show 0<1;omega
 | j+1=>by
  unfold spB
  have h1:=spB_lt ps k j
  have h2:k / 2 ^ (ps.getD j 0) % 2≤1:=by omega
  have h3:=Nat.mul_le_mul_right (2 ^ j) h2
  refine Nat.or_lt_two_pow (n:=j+1) (by rw [Nat.pow_succ];omega) (by rw [Nat.pow_succ];omega)
theorem or_two (a b:Nat) (ha:a<9223372036854775808) (hb:b<9223372036854775808):bits BinOp.or IntKind.i64 (a:Int) (b:Int)=((a ||| b:Nat):Int):=by
 show IntKind.i64.wrap ((BitVec.ofInt 64 (a:Int) ||| BitVec.ofInt 64 (b:Int)).toNat:Int)=_
 have hx:a ||| b<2 ^ 63:=Nat.or_lt_two_pow (by omega) (by omega)
 rw [BitVec.toNat_or,ofInt_u64 a (by omega),ofInt_u64 b (by omega),IntKind.wrap_i64]
 omega
theorem and_oneI (n:Int):bits BinOp.and IntKind.i64 n 1=n % 2:=by
 have h1:(BitVec.ofInt 64 1).toNat=2 ^ 1 - 1:=by decide
 have key:(BitVec.ofInt 64 n &&& BitVec.ofInt 64 1).toNat=(n % ((2 ^ 64:Nat):Int)).toNat % 2 ^ 1:=by
  rw [BitVec.toNat_and,BitVec.toNat_ofInt,h1,Nat.and_two_pow_sub_one_eq_mod]
 show IntKind.i64.wrap ((BitVec.ofInt 64 n &&& BitVec.ofInt 64 1).toNat:Nat)=n % 2
 rw [key,IntKind.wrap_i64]
 omega
theorem wrap64_of (x:Int) (h0:-9223372036854775808≤x) (h1:x<9223372036854775808):wrap64 x=x:=by
 unfold wrap64;omega
theorem or_bit (s k i j:Nat) (hs:s<65536) (hj:j≤16):bits BinOp.or IntKind.i64 (s:Int) (wrap64 (bits BinOp.and IntKind.i64 ((k:Int) / 2 ^ i) 1*2 ^ j))=((s ||| (k / 2 ^ i % 2)*2 ^ j:Nat):Int):=by
 rw [and_oneI]
 have e1:(k:Int) / 2 ^ i % 2=((k / 2 ^ i % 2:Nat):Int):=by push_cast;rfl
 have e2:((2:Int) ^ j)=((2 ^ j:Nat):Int):=by push_cast;rfl
 rw [e1,e2,←Int.natCast_mul]
 have h2:2 ^ j≤2 ^ 16:=Nat.pow_le_pow_right (by omega) hj
 have h3:k / 2 ^ i % 2≤1:=by omega
 have h4:=Nat.mul_le_mul h3 h2
 rw [wrap64_of _ (by omega) (by omega),or_two _ _ (by omega) (by omega)]
end Go.Proofs.Ytlaljeobdddegaa

namespace Go.Proofs.Ytlaljeobdddegaa
open Go.RowKit Mp
theorem or_tab (t c s k:Nat) (ht:t<65536) (hc:c<65536) (hs:s<16) (hk:k<16):bits BinOp.or IntKind.i64 (t:Int) (wrap64 (wrap64 (bits BinOp.and IntKind.u16 ((c:Int) / 2 ^ min s 16) 1)*2 ^ k))=((t ||| (c / 2 ^ s % 2)*2 ^ k:Nat):Int):=by
 rw [Nat.min_eq_left (by omega)]
 have e1:(c:Int) / 2 ^ s=((c / 2 ^ s:Nat):Int):=by push_cast;rfl
 have h1:c / 2 ^ s≤c:=Nat.div_le_self _ _
 have e2:=u16_and_nat (c / 2 ^ s) 1 (by omega) (by omega)
 rw [e1]
 rw [show ((1:Nat):Int)=1 from rfl] at e2
 rw [e2,nat_mask1]
 have h3:c / 2 ^ s % 2≤1:=by omega
 rw [wrap64_of ((c / 2 ^ s % 2:Nat):Int) (by omega) (by omega)]
 have e3:((2:Int) ^ k)=((2 ^ k:Nat):Int):=by push_cast;rfl
 have h2:2 ^ k≤2 ^ 16:=Nat.pow_le_pow_right (by omega) (by omega)
 have h4:=Nat.mul_le_mul h3 h2
 rw [e3,←Int.natCast_mul,wrap64_of _ (by omega) (by omega),or_two _ _ (by omega) (by omega)]
set_option maxRecDepth 100000 in
set_option maxHeartbeats 8000000 in
theorem bits_any (w:World) (b o:Nat) (c:Ct) (h:CtAt w b o c) (la:Option Addr) (lc:Nat) (ps:List Nat) (hl:ps.length≤4) (hr:NumR w la ps) (h4:∀ p,p ∈ ps→p<4) (htb:c.tb<65536) :
  Calls Try.prog 63 #[.pointer (some ⟨b,o,none⟩),.slice la ps.length lc] w fun e w'=>e = .returned (.int .i64 (bitT ps c.tb:Nat))∧w'=w:=by
 have HR:=hidden hr
 have H4:=hidden h4
 have c7:=h.c7
 have HE:Hid (bitT ps c.tb=mkB (2 ^ ps.length) fun k=>c.tb.testBit (spS ps k ps.length)):=by
  show _=_
  unfold bitT
  congr 1
  funext k
  rw [spS_all h4]
 rw [HE.out]
 have HSL:Hid (∀ k j,j≤ps.length→spS ps k j<16):=fun k=>spS_lt h4 k
 obtain ⟨n,En⟩:=exh ps.length
 rw [←En.out] at hl ⊢
 rw [←En.out] at HSL
 generalize c.tb=tb at *
 obtain ⟨N,HN⟩:=exh (2 ^ n)
 have hN16:N≤16:=by rw [HN.out];exact Nat.pow_le_pow_right (n:=2) (by omega) hl
 have hN:wrap64 (2 ^ n)=(N:Int):=by
  have e:((2:Int) ^ n)=((2 ^ n:Nat):Int):=by push_cast;rfl
  rw [e,←HN.out];exact wrap64_of _ (by omega) (by omega)
 rw [←HN.out]
 clear hr h4 HE h HN
 go_enter Try.func63,Try.ntmps63
 go_wp2_with fail
 generalize wrap64 (2 ^ n)=NI at *
 subst hN
 go_loopw [5,6,7,13] (fun t' _ _ i' w'=>∃ (k t:Nat),k≤N∧i' = .int .i64 (k:Int)∧t' = .int .i64 (t:Int)∧Hid (t=mkB k fun k=>tb.testBit (spS ps k n))∧Hid (w'=w)) (fun _ _ _ i' _=>N - (intOf i').toNat)
 case atStart=>exact ⟨0,0,Nat.zero_le _,rfl,rfl,rfl,rfl⟩
 case round =>
  obtain ⟨k,t,hk,rfl,rfl,HT,HW⟩:=hrel
  obtain rfl:=HW.out
  clear HW
  have ht:t<65536:=by
   rw [HT.out]
   exact Nat.lt_of_lt_of_le (mkB_lt k _) (Nat.pow_le_pow_right (n:=2) (j:=16) (by omega) (by omega))
  by_cases hlt:k<N
  ·have hltI:(k:Int)<(N:Int):=by omega
   have e2:IntKind.i64.wrap ((k:Int)+1)=(k:Int)+1:=wrapI _ (by omega) (by omega)
   have e2':wrap64 ((k:Int)+1)=(k:Int)+1:=wrap64_of _ (by omega) (by omega)
   have hk0:(0:Int)≤(k:Int):=by omega
   have HNT:Hid ((t ||| (tb / 2 ^ (spS ps k n) % 2)*2 ^ k)=mkB (k+1) fun k=>tb.testBit (spS ps k n)):=by
    show _=_
    rw [tb_bit,HT.out]
    exact mkB_or k fun k=>tb.testBit (spS ps k n)
   have HK16:Hid (k<16):=by show _<_;omega
   clear HT
   go_wp2_with fail
   obtain ⟨W,EW⟩:=exh wr
   rw [←EW.out] at c7 HR
   go_loopw [7,8,9,18] (fun s' _ _ i' w'=>∃ (j s:Nat),j≤n∧i' = .int .i64 (j:Int)∧s' = .int .i64 (s:Int)∧Hid (s=spS ps k j)∧Hid (w'=W)) (fun _ _ _ i' _=>n - (intOf i').toNat)
   case atStart=>exact ⟨0,0,Nat.zero_le _,rfl,rfl,rfl,EW.out.symm⟩
   case round =>
    obtain ⟨j,s,hj,rfl,rfl,HS,HW⟩:=hrel
    obtain rfl:=HW.out
    clear HW
    have HS16:Hid (s<16):=by show _<_;rw [HS.out];exact HSL.out k j hj
    by_cases hlt2:j<n
    ·have hltJ:(j:Int)<(n:Int):=by omega
     obtain ⟨p,hp⟩:=getElem_lt (show j<ps.length by rw [←En.out];exact hlt2)
     obtain ⟨b',o',ea,cx⟩:=HR.out j p hp
     have HP4:=hidden (H4.out p (List.mem_of_getElem? hp))
     have hp4:(p:Int)<4:=by have:=HP4.out;omega
     have hp0:(0:Int)≤(p:Int):=by omega
     have hj0:(0:Int)≤(j:Int):=by omega
     have e3:IntKind.i64.wrap ((j:Int)+1)=(j:Int)+1:=wrapI _ (by omega) (by omega)
     have hor:=or_bit s k j p (by have:=HS16.out;omega) (by have:=HP4.out;omega)
     have HNS:Hid ((s ||| (k / 2 ^ j % 2)*2 ^ p)=spS ps k (j+1)):=by
      show _=spS ps k j ||| _
      rw [HS.out,List.getD_eq_getElem?_getD,hp];rfl
     generalize (s ||| (k / 2 ^ j % 2)*2 ^ p)=s2 at *
     subst ea
     clear hp HS HS16
     go_wp2
     go_roundw
     case measure=>simp [intOf];omega
     case rel=>exact ⟨j+1,s2,by omega,by simp,rfl,HNS.out,True.intro⟩
    ·have hge:¬ (j:Int)<(n:Int):=by omega
     have hor:=or_tab t tb s k ht htb HS16.out HK16.out
     have HNS:Hid ((t ||| (tb / 2 ^ s % 2)*2 ^ k)=mkB (k+1) fun k=>tb.testBit (spS ps k n)):=by
      show _=_
      rw [HS.out,show j=n by omega];exact HNT.out
     generalize (t ||| (tb / 2 ^ s % 2)*2 ^ k)=t2 at *
     have hs0:(0:Int)≤(s:Int):=by omega
     clear HS HS16 HNT
     go_wp2
     go_roundw
     case measure=>simp [intOf];omega
     case rel=>exact ⟨k+1,t2,by omega,by simp,rfl,HNS.out,EW.out⟩
  ·have hge:¬ (k:Int)<(N:Int):=by omega
   have hkN:k=N:=by omega
   have HF:Hid (t=mkB N fun k=>tb.testBit (spS ps k n)):=by rw [←hkN];exact HT.out
   clear HT hkN
   go_wp2
   go_ret
   exact ⟨ret_int (by rw [HF.out]),rfl⟩
end Go.Proofs.Ytlaljeobdddegaa

namespace Go.Proofs.Ytlaljeobdddegaa
open Go.RowKit Mp
def nV (x:Nat):Value:=.int .i64 (x:Int)
theorem info_n0:(Try.prog.info? 3).map (fun i=>(i.zero,i.size,i.bytes))=some (some (.int .i64 0),1,8):=by kernel_rfl
theorem info_n:∃ i,Try.prog.info? 3=some i∧i.zero=some (.int .i64 0)∧i.size=1∧i.bytes=8:=by
 have h:=info_n0
 cases hi:Try.prog.info? 3 with
 | none=>rw [hi] at h;simp at h
 | some i=>rw [hi] at h;simp at h;exact ⟨i,rfl,h.1,h.2.1,h.2.2⟩
theorem app_int (w:World) {ops:Array Oper} {rest:List Oper} {o:Oper} {a:Act} {Q:Exit→Act→World→Prop} (hgd:o.guard=none) (s x:Operand)
  (ho:o.op = .call { callee:=.builtin .append,args:=#[s,x],argTypes:=#[24,24] })
  (base:Nat) (v:Value) (n:Nat) (xs:List Value) (hs:a.eval s=v) (hown:w.ownsRow base 3 1 v n xs) (ad:Addr) (y:Int) (hx:a.eval x = .slice (some ad) 1 1) (hy:w.cell? ad=some (.int .i64 y)) (hn:n≤1000000000000) (hbase:base≤w.heap.size)
  (h:∀ g cap w',w'.ownsRow base 3 1 (.slice (some ⟨g,0,none⟩) (n+1) cap) (n+1) (xs++[.int .i64 y])→w.grownBy w' v.ownBlock→(v.ownBlock=some g∨g=w.heap.size)→wpList Try.prog ops Q rest (a.put o.dst (.slice (some ⟨g,0,none⟩) (n+1) cap)) w'):wpList Try.prog ops Q (o :: rest) a w:=by
 obtain ⟨i,hi,hz,hsz,hby⟩:=info_n
 refine wpList_append_lies w hgd s x 24 ho base 3 i _ 1 8 ints_u hi hz hsz hby rfl (by decide) v n xs hs hown ad 1 1 [.int .i64 y] hx rfl (fun j u hu=>?_) (by simp [Value.oneCell']) (by decide) (by simp only [maxLen];omega) (by omega) hbase _ rfl ?_
 ·cases j with
  | zero =>
   obtain rfl:=Option.some.inj hu
   have:ad.add 0=ad:=by
    unfold Addr.add
    split <;> simp_all
   rw [this];exact hy
  | succ j=>simp at hu
 ·intro g cap w' h1 h2 h3 _
  exact h g cap w' h1 h2 h3
theorem grow_alloc {a b:World} {o:Obj} {row:Option Nat} (h:(a.alloc o).grownBy b row):a.grownBy b row:=⟨h.os,h.tape,h.output,Nat.le_trans (by simp) h.size,fun k hk hr=>(h.block k (by simp;omega) hr).trans (heap_alloc_old a o hk)⟩
def NewB (C:Nat) (v:Value):Prop:=∀ k,v.ownBlock=some k→C≤k
theorem own_newB {w:World} {C e sz n:Nat} {v:Value} {xs:List Value} (h:w.ownsRow C e sz v n xs):NewB C v:=fun k hk=>by
 rcases h.2 with ⟨rfl,_⟩ | ⟨g,cap,cur,rfl,hg,_⟩
 ·cases hk
 ·have:g=k:=by simpa [Value.ownBlock] using hk
  omega
theorem own_nil (w:World) (C:Nat) (e:TypeId) (sz:Nat):w.ownsRow C e sz (.slice none 0 0) 0 []:=⟨by simp,Or.inl ⟨rfl,rfl⟩⟩
theorem app_bl {W wr w5:World} {o:Obj} {v:Value} (h:Bl W wr) (hv:NewB W.heap.size v) (hg:(wr.alloc o).grownBy w5 v.ownBlock):Bl W w5:=h.trans (grow_low (grow_alloc hg) h.size hv)
def leafT (i:Nat):Nat:=if i=0 then 43690 else if i=1 then 52428 else if i=2 then 61680 else 65280
theorem leaf_bits:∀ i,i<4→∀ k,k<16→(leafT i).testBit k=k.testBit i∧(k.testBit i=false→k ^^^ 2 ^ i=k+2 ^ i∧k+2 ^ i<16∧(k+2 ^ i).testBit i=true)∧(k.testBit i=true→2 ^ i≤k∧(k - 2 ^ i).testBit i=false∧k ^^^ 2 ^ i=k - 2 ^ i):=by decide
theorem leafT_lt (i:Nat):leafT i<65536:=by
 unfold leafT
 split
 ·omega
 ·split
  ·omega
  ·split <;> omega
theorem not16 (b i:Nat) (hb:b<65536):(65535 - b).testBit i=(decide (i<16) && !b.testBit i):=by
 have:=Nat.testBit_two_pow_sub_succ (n:=16) (x:=b) hb i
 have e:2 ^ 16 - (b+1)=65535 - b:=by omega
 rw [e] at this
 exact this
def hangs (tb i:Nat):Bool:=decide (tb &&& (65535 - leafT i)≠(tb &&& leafT i) / 2 ^ (2 ^ i))
theorem hangs_idle {tb i:Nat} (hi:i<4) (h:hangs tb i=false):Idle tb i:=by
 have he:tb &&& (65535 - leafT i)=(tb &&& leafT i) / 2 ^ (2 ^ i):=by
  unfold hangs at h
  simpa using h
 have key:∀ k,k<16→k.testBit i=false→tb.testBit k=tb.testBit (k+2 ^ i):=fun k hk hb=>by
  obtain ⟨h1,h2,_⟩:=leaf_bits i hi k hk
  obtain ⟨_,h4,h5⟩:=h2 hb
  have h6:=(leaf_bits i hi (k+2 ^ i) h4).1
  have:=congrArg (fun z=>z.testBit k) he
  simp only [Nat.testBit_and,Nat.testBit_div_two_pow] at this
  rw [not16 _ _ (leafT_lt i),h1,hb,h6,h5] at this
  simpa [hk] using this
 intro k hk
 cases hb:k.testBit i with
 | false =>
  rw [((leaf_bits i hi k hk).2.1 hb).1]
  exact key k hk hb
 | true =>
  obtain ⟨h1,h2,h3⟩:=(leaf_bits i hi k hk).2.2 hb
  rw [h3]
  have:=key (k - 2 ^ i) (Nat.lt_of_le_of_lt (Nat.sub_le _ _) hk) h2
  rw [show k - 2 ^ i+2 ^ i=k by omega] at this
  exact this.symm
def wtyL (c:Ct):List Nat:=(List.range c.lv.length).filter (hangs c.tb)
theorem wtyL_idle {P:(Nat→Bool)→Prop} {v:Nat} {c:Ct} (h:TOk P v c):∀ i,i<4→i ∉ wtyL c→Idle c.tb i:=fun i hi hn=>by
 by_cases hl:i<c.lv.length
 ·refine hangs_idle hi ?_
  cases e:hangs c.tb i with
  | false=>rfl
  | true=>exact absurd (List.mem_filter.2 ⟨List.mem_range.2 hl,e⟩) hn
 ·exact h.idle i (by omega) hi
theorem wtyL_lt {c:Ct}:∀ p,p ∈ wtyL c→p<c.lv.length:=fun _ hp=>List.mem_range.1 (List.mem_filter.1 hp).1
theorem wtyL_nd (c:Ct):(wtyL c).Nodup:=List.nodup_range.filter _
theorem wtyL_len (c:Ct):(wtyL c).length≤c.lv.length:=Nat.le_trans (List.length_filter_le _ _) (by rw [List.length_range];exact Nat.le_refl _)
theorem leaf_ix (wx:World):(Instr.index 137 (.agg #[.int .u16 43690,.int .u16 52428,.int .u16 61680,.int .u16 65280]) (.int .i64 0)).run Try.prog wx = .ok (.int .u16 43690) wx∧(Instr.index 137 (.agg #[.int .u16 43690,.int .u16 52428,.int .u16 61680,.int .u16 65280]) (.int .i64 1)).run Try.prog wx = .ok (.int .u16 52428) wx∧(Instr.index 137 (.agg #[.int .u16 43690,.int .u16 52428,.int .u16 61680,.int .u16 65280]) (.int .i64 2)).run Try.prog wx = .ok (.int .u16 61680) wx∧(Instr.index 137 (.agg #[.int .u16 43690,.int .u16 52428,.int .u16 61680,.int .u16 65280]) (.int .i64 3)).run Try.prog wx = .ok (.int .u16 65280) wx:=⟨by kernel_rfl,by kernel_rfl,by kernel_rfl,by kernel_rfl⟩
set_option maxRecDepth 100000 in
set_option maxHeartbeats 8000000 in
theorem leafTable_any (w:World) (i:Nat) (hi:i<4):Calls Try.prog 69 #[.int .i64 (i:Int)] w fun e w'=>e = .returned (.int .u16 (leafT i:Nat))∧w'=w:=by
 obtain ⟨r0,r1,r2,r3⟩:=leaf_ix w
 have:i=0∨i=1∨i=2∨i=3:=by omega
 rcases this with rfl | rfl | rfl | rfl
 ·go_enter Try.func69,Try.ntmps69
  go_wp2
  go_ret
  exact ⟨rfl,rfl⟩
 ·go_enter Try.func69,Try.ntmps69
  go_wp2
  go_ret
  exact ⟨rfl,rfl⟩
 ·go_enter Try.func69,Try.ntmps69
  go_wp2
  go_ret
  exact ⟨rfl,rfl⟩
 ·go_enter Try.func69,Try.ntmps69
  go_wp2
  go_ret
  exact ⟨rfl,rfl⟩
set_option maxRecDepth 100000 in
set_option maxHeartbeats 8000000 in
theorem weighty_any (w:World) (b o:Nat) (c:Ct) (h:CtAt w b o c) (h4:c.lv.length≤4) (htb:c.tb<65536) :
  Calls Try.prog 60 #[.pointer (some ⟨b,o,none⟩)] w fun e w'=>∃ v,e = .returned v∧Hid (w'.ownsRow w.heap.size 3 1 v (wtyL c).length ((wtyL c).map nV))∧Hid (Bl w w'):=by
 have q4:=h.c4
 have HC7:Hid (∀ v:World,Bl w v→v.cell? ⟨b,o+7,none⟩=some (.int .u16 (c.tb:Nat))):=fun v hv=>(h.to h.lt hv).c7
 obtain ⟨n,En⟩:=exh c.lv.length
 have HWL:Hid (wtyL c=(List.range n).filter (hangs c.tb)):=by rw [En.out];rfl
 rw [HWL.out]
 rw [←En.out] at q4 h4
 generalize c.tb=tb at *
 clear h En HWL
 go_enter Try.func60,Try.ntmps60
 go_wp2_with fail
 clear q4
 go_loopw [3,4,5,6,11] (fun v' _ _ _ i' w'=>∃ (k:Nat),k≤n∧i' = .int .i64 (k:Int)∧Hid (w'.ownsRow w.heap.size 3 1 v' ((List.range k).filter (hangs tb)).length (((List.range k).filter (hangs tb)).map nV))∧Hid (Bl w w')) (fun _ _ _ _ i' _=>n - (intOf i').toNat)
 case atStart=>exact ⟨0,Nat.zero_le _,rfl,own_nil w _ _ _,Below.refl _ _⟩
 case round =>
  obtain ⟨k,hk,rfl,HO,HB⟩:=hrel
  by_cases hlt:k<n
  ·have hltI:(k:Int)<(n:Int):=by omega
   have c7:=HC7.out wr HB.out
   have c7d:wr.drew.cell? ⟨b,o+7,none⟩=some (.int .u16 (tb:Nat)):=c7
   have LF:Hid (∀ v:World,Calls Try.prog 69 #[.int .i64 (k:Int)] v fun e w'=>e = .returned (.int .u16 (leafT k:Nat))∧w'=v):=fun v=>leafTable_any v k (by omega)
   have e2:IntKind.i64.wrap ((k:Int)+1)=(k:Int)+1:=wrapI _ (by omega) (by omega)
   have hk0:(0:Int)≤(k:Int):=by omega
   have hAN:=u16_andNot_nat tb (leafT k) htb (leafT_lt k)
   have hAD:=u16_and_nat tb (leafT k) htb (leafT_lt k)
   obtain ⟨wf,Hwf⟩:=exh (tb &&& (65535 - leafT k))
   obtain ⟨wt,Hwt⟩:=exh (tb &&& leafT k)
   rw [←Hwf.out] at hAN
   rw [←Hwt.out] at hAD
   go_wp2_with fail
   refine wp_region_noPanic ?_
   refine wp_region_held_drew (S:=fun wz=>wz.cell? ⟨b,o+7,none⟩=some (.int .u16 (tb:Int))) (by kernel_rfl) (by exact c7) (fun hHeld=>?_)
   refine tk 0 ?_
   refine tk 1 ?_
   refine tk 2 ?_
   refine tk 3 ?_
   refine tk 4 ?_
   refine rd 5 fun K hK=>?_
   (try simp only [gA,gB,gC]);go_simp
   go_at_call 69
   refine (LF.out wr.drew).mono ?_
   rintro e v ⟨rfl,hv⟩
   rw [hv]
   clear hv v
   go_wp2_with fail
   refine wo hK hHeld fun hHeld2=>?_
   clear hK K
   refine tk 6 ?_
   refine tk 7 ?_
   refine wpAnyH_done (by kernel_rfl) ?_ _
   refine NoPanic.normal ?_
   clear hHeld hHeld2
   go_wp2_with fail
   refine wp_region_noPanic ?_
   refine wp_region_held_drew (S:=fun wz=>wz.cell? ⟨b,o+7,none⟩=some (.int .u16 (tb:Int))) (by kernel_rfl) (by exact c7d) (fun hHeld=>?_)
   refine tk 0 ?_
   refine tk 1 ?_
   refine tk 2 ?_
   refine tk 3 ?_
   refine tk 4 ?_
   refine tk 7 ?_
   refine tk 8 ?_
   refine rd 5 fun K hK=>?_
   (try simp only [gA,gB,gC]);go_simp
   go_at_call 69
   refine (LF.out wr.drew.drew).mono ?_
   rintro e v ⟨rfl,hv⟩
   rw [hv]
   clear hv v
   go_wp2_with fail
   refine wo hK hHeld fun hHeld2=>?_
   clear hK K
   refine tk 6 ?_
   refine tk 9 ?_
   refine tk 10 ?_
   refine wpAnyH_done (by kernel_rfl) ?_ _
   refine NoPanic.normal ?_
   obtain ⟨ws,Hws⟩:=exh (wt / 2 ^ (2 ^ k))
   have hsh:(wt:Int) / 2 ^ min (IntKind.u64.wrap (2 ^ k)).toNat 16=(ws:Int):=by
    have hk3:(2:Nat) ^ k≤8:=Nat.pow_le_pow_right (n:=2) (j:=3) (by omega) (by omega)
    have e1:((2:Int) ^ k)=((2 ^ k:Nat):Int):=by push_cast;rfl
    have e3:min (IntKind.u64.wrap (((2 ^ k:Nat):Int))).toNat 16=2 ^ k:=by
     generalize (2:Nat) ^ k=q at hk3 ⊢
     rw [wrapU _ (by omega) (by omega)];omega
    rw [e1,e3,Hws.out];push_cast;rfl
   rw [hsh]
   have HNX:Hid ((List.range (k+1)).filter (hangs tb)=(List.range k).filter (hangs tb)++(if hangs tb k then [k] else [])):=by
    show _=_
    rw [List.range_succ,List.filter_append]
    congr 1
    by_cases hh:hangs tb k=true
    ·simp [hh]
    ·simp only [Bool.not_eq_true] at hh;simp [hh]
   have HHG:Hid (hangs tb k=decide (wf≠ws)):=by
    show _=_
    unfold hangs
    rw [Hwf.out,Hws.out,Hwt.out]
   have HBD:Hid (Bl w wr.drew.drew):=Below.drew (Below.drew HB.out)
   have HOD:Hid (wr.drew.drew.ownsRow w.heap.size 3 1 u3 ((List.range k).filter (hangs tb)).length (((List.range k).filter (hangs tb)).map nV)):=HO.out
   have hlen:((List.range k).filter (hangs tb)).length≤k:=Nat.le_trans (List.length_filter_le _ _) (by rw [List.length_range];exact Nat.le_refl _)
   clear hHeld hHeld2 hsh HO HB c7 c7d hAN hAD LF Hwf Hwt Hws
   generalize wr.drew.drew=w1 at *
   generalize (List.range k).filter (hangs tb)=fs at *
   by_cases e:wf=ws
   ·have eI:(wf:Int)=(ws:Int):=by omega
    have HN2:Hid ((List.range (k+1)).filter (hangs tb)=fs):=by
     show _=_
     rw [HNX.out,HHG.out,decide_eq_false (by simpa using e)];simp
    subst e
    clear HNX HHG
    go_wp2
    go_roundw
    case measure=>simp [intOf];omega
    case rel=>exact ⟨k+1,by omega,by simp,by rw [HN2.out];exact HOD.out,HBD.out⟩
   ·have eI:¬ (wf:Int)=(ws:Int):=by omega
    have HN2:Hid ((List.range (k+1)).filter (hangs tb)=fs++[k]):=by
     show _=_
     rw [HNX.out,HHG.out,decide_eq_true e];simp
    have hsz:w.heap.size≤w1.heap.size+1:=by have:=HBD.out.size;omega
    clear HNX HHG e
    have tok:True:=trivial
    go_wp2_with (have _t:=tok;at_builtin;(refine app_int _ rfl (.tmp 34) (.tmp 36) rfl w.heap.size u3 fs.length _ rfl (HOD.out.alloc _) ⟨w1.heap.size,0,none⟩ (k:Int) rfl (by rw [cell_new rfl];rfl) (by omega) (by simpa using hsz) ?_;intro g6 c6 w6 hown hgrow _;have HB6:=hidden (app_bl HBD.out (own_newB HOD.out) hgrow);have HO6:=hidden hown;clear tok hown hgrow))
    go_roundw
    case measure=>simp [intOf];omega
    case rel=>exact ⟨k+1,by omega,by simp,by rw [HN2.out,List.length_append,List.map_append];exact HO6.out,HB6.out⟩
  ·have hge:¬ (k:Int)<(n:Int):=by omega
   have hkn:k=n:=by omega
   have HO2:Hid (wr.ownsRow w.heap.size 3 1 u3 ((List.range n).filter (hangs tb)).length (((List.range n).filter (hangs tb)).map nV)):=by rw [←hkn];exact HO.out
   clear HO hkn
   go_wp2
   go_ret
   exact ⟨u3,rfl,HO2.out,HB.out⟩
end Go.Proofs.Ytlaljeobdddegaa
