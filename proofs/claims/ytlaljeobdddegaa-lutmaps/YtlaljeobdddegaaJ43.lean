import Derived.Test.YtlaljeobdddegaaJ42
import Derived.Test.YtlaljeobdddegaaJ24
namespace Go.Proofs.Ytlaljeobdddegaa
open Go.RowKit Mp
theorem xor_twoN (a b:Nat) (ha:a<9223372036854775808) (hb:b<9223372036854775808):bits BinOp.xor IntKind.i64 (a:Int) (b:Int)=((a ^^^ b:Nat):Int):=by
 show IntKind.i64.wrap ((BitVec.ofInt 64 (a:Int) ^^^ BitVec.ofInt 64 (b:Int)).toNat:Int)=_
 have hx:a ^^^ b<2 ^ 63:=Nat.xor_lt_two_pow (by omega) (by omega)
 rw [BitVec.toNat_xor,ofInt_u64 a (by omega),ofInt_u64 b (by omega),IntKind.wrap_i64]
 omega
set_option maxRecDepth 100000 in
set_option maxHeartbeats 8000000 in
theorem turned_any (w:World) (b p n:Nat) (hp:p<n) (hn:n≤4) :
  Calls Try.prog 54 #[.int .i64 (b:Nat),.int .i64 (p:Nat),.int .i64 (n:Nat)] w fun e w'=>e = .returned (.int .i64 (trnT b p n:Nat))∧w'=w:=by
 unfold trnT
 obtain ⟨N,HN⟩:=exh (2 ^ n)
 have hN16:N≤16:=by rw [HN.out];exact Nat.pow_le_pow_right (n:=2) (by omega) hn
 have hN:wrap64 (2 ^ n)=(N:Int):=by
  have e:((2:Int) ^ n)=((2 ^ n:Nat):Int):=by push_cast;rfl
  rw [e,←HN.out];exact wrap64_of _ (by omega) (by omega)
 have HPN:Hid (2 ^ p<2 ^ n):=Nat.pow_lt_pow_right (by omega) hp
 rw [←HN.out] at HPN
 rw [←HN.out]
 have HXL:Hid (∀ k,k<N→k ^^^ 2 ^ p<16):=fun k hk=>by
  have h1:k<2 ^ n:=by rw [←HN.out];exact hk
  have h2:2 ^ p<2 ^ n:=by rw [←HN.out];exact HPN.out
  have:=Nat.xor_lt_two_pow h1 h2
  rw [←HN.out] at this
  omega
 have hn0:(0:Int)≤(n:Int):=by omega
 have hp0:(0:Int)≤(p:Int):=by omega
 clear HN
 go_enter Try.func54,Try.ntmps54
 go_wp2_with fail
 generalize wrap64 (2 ^ n)=NI at *
 subst hN
 go_loopw [7,8,11] (fun t' _ i' w'=>∃ (k t:Nat),k≤N∧i' = .int .i64 (k:Int)∧t' = .int .i64 (t:Int)∧Hid (t=mkB k fun k=>b.testBit (k ^^^ 2 ^ p))∧Hid (w'=w)) (fun _ _ i' _=>N - (intOf i').toNat)
 case atStart=>exact ⟨0,0,Nat.zero_le _,rfl,rfl,rfl,rfl⟩
 case round =>
  obtain ⟨k,t,hk,rfl,rfl,HT,HW⟩:=hrel
  obtain rfl:=HW.out
  clear HW
  have ht:t<65536:=by
   rw [HT.out]
   exact Nat.lt_of_lt_of_le (mkB_lt k _) (Nat.pow_le_pow_right (n:=2) (j:=16) (by omega) (by omega))
  by_cases hlt:k<N
  ·have hltI:(k:Int)<(N:Int):=by omega
   have e2:IntKind.i64.wrap ((k:Int)+1)=(k:Int)+1:=wrapI _ (by omega) (by omega)
   have hk0:(0:Int)≤(k:Int):=by omega
   have hxs:=HXL.out k hlt
   have hpw:2 ^ p≤16:=Nat.le_trans (Nat.le_of_lt HPN.out) hN16
   have hxr:bits BinOp.xor IntKind.i64 (k:Int) (wrap64 (2 ^ p))=((k ^^^ 2 ^ p:Nat):Int):=by
    have e:((2:Int) ^ p)=((2 ^ p:Nat):Int):=by push_cast;rfl
    rw [e]
    generalize 2 ^ p=M at hpw ⊢
    rw [wrap64_of _ (by omega) (by omega)]
    exact xor_twoN _ _ (by omega) (by omega)
   have HNT:Hid ((t ||| (b / 2 ^ (k ^^^ 2 ^ p) % 2)*2 ^ k)=mkB (k+1) fun k=>b.testBit (k ^^^ 2 ^ p)):=by
    show _=_
    rw [tb_bit,HT.out]
    exact mkB_or k fun k=>b.testBit (k ^^^ 2 ^ p)
   clear HT hpw
   generalize k ^^^ 2 ^ p=s at *
   have hs0:(0:Int)≤(s:Int):=by omega
   have hor:=or_bit t b s k ht (by omega)
   have hms:min s 64=s:=by omega
   generalize (t ||| (b / 2 ^ s % 2)*2 ^ k)=t2 at *
   clear hxs
   go_wp2
   go_roundw
   case measure=>simp [intOf];omega
   case rel=>exact ⟨k+1,t2,by omega,by simp,rfl,HNT.out,True.intro⟩
  ·have hge:¬ (k:Int)<(N:Int):=by omega
   have hkN:k=N:=by omega
   have HF:Hid (t=mkB N fun k=>b.testBit (k ^^^ 2 ^ p)):=by rw [←hkN];exact HT.out
   clear HT hkN
   go_wp2
   go_ret
   exact ⟨ret_int (by rw [HF.out]),rfl⟩
end Go.Proofs.Ytlaljeobdddegaa

namespace Go.Proofs.Ytlaljeobdddegaa
open Go.RowKit Mp
set_option maxRecDepth 100000 in
set_option maxHeartbeats 8000000 in
theorem clone_any (w:World) (b o lc:Nat) (l:List Int) (hr:RowAt w.heap.size w (some ⟨b,o,none⟩) 1 (l.map intC)) (hn:l.length≤1000000) :
  Calls Try.prog 52 #[.slice (some ⟨b,o,none⟩) l.length lc] w fun e w'=>∃ v,e = .returned v∧Hid (w'.ownsRow w.heap.size 3 1 v l.length (l.map zV))∧Hid (Bl w w'):=by
 have hal:Bl w (w.alloc (.cells #[] 3)):=(Below.refl _ _).alloc (Nat.le_refl _) _
 have HR:Hid (RowAt (w.alloc (.cells #[] 3)).heap.size (w.alloc (.cells #[] 3)) (some ⟨b,o,none⟩) 1 (l.map intC)):=(hr.to hal).mono hal.size
 have HON:Hid ((w.alloc (.cells #[] 3)).ownsRow w.heap.size 3 1 (.slice (some ⟨w.heap.size,0,none⟩) 0 0) 0 []):=World.ownsRow_lit w #[] 0 (Nat.le_refl _) (Nat.zero_le _) rfl
 have HAL:=hidden hal
 have hm3:w.heap.size≤(w.alloc (.cells #[] 3)).heap.size:=hal.size
 obtain ⟨n,En⟩:=exh l.length
 have NL:∀ w,(binOp .eql 24 (.slice (some ⟨b,o,none⟩) n lc) (.slice none 0 0)).run Try.prog w = .ok (.bool false) w:=fun w=>Lib.run_eql_slice_nil w 24 3 (some ⟨b,o,none⟩) n lc 0 0 Try.underlying24
 rw [←En.out]
 rw [←En.out] at hn
 clear hr hal
 have tok:True:=trivial
 go_enter Try.func52,Try.ntmps52
 go_wp2_with (have _t:=tok;at_builtin;(refine app_ints _ rfl (.tmp 5) (.tmp 6) rfl w.heap.size (.slice (some ⟨w.heap.size,0,none⟩) 0 0) 0 [] rfl HON.out (some ⟨b,o,none⟩) lc l (by rw [←En.out];rfl) HR.out (fun h=>by cases h) (by rw [←En.out];omega) hm3 ?_;intro v1 w1 hown hgrow _;have HO1:=hidden hown;have HB1:Hid (Bl w w1):=HAL.out.trans (grow_low hgrow hm3 (fun k hk=>by cases hk;exact Nat.le_refl _));clear tok hown hgrow))
 go_wp2
 go_ret
 have h1:=HO1.out
 rw [←En.out,Nat.zero_add,List.nil_append] at h1
 exact ⟨v1,rfl,h1,HB1.out⟩
end Go.Proofs.Ytlaljeobdddegaa

namespace Go.Proofs.Ytlaljeobdddegaa
open Go.RowKit Mp
theorem tabs_u:Try.prog.underlying 32=some (.slice 53):=Try.underlying32
theorem info_tab0:(Try.prog.info? 53).map (fun i=>(i.zero,i.size,i.bytes))=some (some (.agg #[.slice none 0 0,.int .i64 0]),2,32):=by kernel_rfl
theorem info_tab:∃ i,Try.prog.info? 53=some i∧i.zero=some (.agg #[.slice none 0 0,.int .i64 0])∧i.size=2∧i.bytes=32:=by
 have h:=info_tab0
 cases hi:Try.prog.info? 53 with
 | none=>rw [hi] at h;simp at h
 | some i=>rw [hi] at h;simp at h;exact ⟨i,rfl,h.1,h.2.1,h.2.2⟩
theorem step_tab (w:World) {ops:Array Oper} {o:Oper} {a:Act} {K:Act→World→Prop} {Q:Exit→Act→World→Prop} {E:Prop} (hgd:o.guard=none) (s x:Operand)
  (ho:o.op = .call { callee:=.builtin .append,args:=#[s,x],argTypes:=#[32,32] })
  (base:Nat) (v:Value) (n:Nat) (xs:List Value) (hs:a.eval s=v) (hown:w.ownsRow base 53 2 v n xs) (b:Nat) (d:L.TbD) (hx:a.eval x = .slice (some ⟨b,0,none⟩) 1 1) (hy:Blk w b 53 d.cells.toArray) (hn:n≤900000000000) (hbase:base≤w.heap.size)
  (h:∀ g cap w',w'.ownsRow base 53 2 (.slice (some ⟨g,0,none⟩) (n+1) cap) (n+1) (xs++d.cells)→w.grownBy w' v.ownBlock→(v.ownBlock=some g∨g=w.heap.size)→K (a.put o.dst (.slice (some ⟨g,0,none⟩) (n+1) cap)) w'):if Region.wanted o (yielded ops a.tmps)=true then Oper.wp Try.prog o a w K Q else E:=by
 obtain ⟨i,hi,hz,hsz,hby⟩:=info_tab
 refine step_append_lies w hgd s x 32 ho base 53 i _ 2 32 tabs_u hi hz hsz hby rfl (by decide) v n xs hs hown ⟨b,0,none⟩ 1 1 d.cells hx rfl (fun j u hu=>?_) (by simp [L.TbD.cells,Value.oneCell']) (by decide) (by simp only [maxLen];omega) (by omega) hbase _ rfl ?_
 ·rw [addL,Nat.zero_add]
  exact hy.cell (by rw [List.getElem?_toArray];exact hu)
 ·intro g cap w' h1 h2 h3 _
  exact h g cap w' h1 h2 h3
theorem own_sl {w:World} {C e sz n:Nat} {v:Value} {xs:List Value} (h:w.ownsRow C e sz v n xs):∃ a c,v = .slice a n c:=by
 rcases h.2 with ⟨rfl,h0⟩ | ⟨g,cap,cur,rfl,_⟩
 ·exact ⟨none,0,by rw [h0]⟩
 ·exact ⟨_,_,rfl⟩
def tcl (d:L.TbD):Value:=.slice d.a d.ins.length d.c
structure LyS where
 lb:Nat
 sb:Nat
 qb:Nat
 M:Nat
structure NetL where
 ni:Int
 init:List Bool
 tabs:List L.TbD
 next:List Int
 outs:List Int
structure LyAt (C:Nat) (w:World) (D:LyS) (N:NetL) (sg:Nat→Int) (wd:Nat→Bool) (iv tv nv ov:Value):Prop where
 bk:Blk w D.lb 72 #[.int .i64 N.ni,iv,tv,nv,ov,.slice (some ⟨D.sb,0,none⟩) D.M D.M,.slice (some ⟨D.qb,0,none⟩) D.M D.M]
 sg:Blk w D.sb 3 (tabL D.M fun l=>.int .i64 (sg l)).toArray
 wd:Blk w D.qb 4 (tabL D.M fun l=>.bool (wd l)).toArray
 oi:w.ownsRow C 4 1 iv N.init.length (N.init.map Value.bool)
 ot:w.ownsRow C 53 2 tv N.tabs.length (N.tabs.flatMap L.TbD.cells)
 on:w.ownsRow C 3 1 nv N.next.length (N.next.map zV)
 oo:w.ownsRow C 3 1 ov N.outs.length (N.outs.map zV)
 ti:∀ d,d ∈ N.tabs→w.ownsRow C 3 1 (tcl d) d.ins.length (d.ins.map zV)∧FaV (tcl d) iv∧FaV (tcl d) tv∧FaV (tcl d) nv∧FaV (tcl d) ov
 f1:FaV tv iv
 f2:FaV tv nv
 f3:FaV tv ov
 f4:FaV nv iv
 f5:FaV nv ov
 f6:FaV iv ov
 lt:D.lb<C∧D.sb<C∧D.qb<C
 le:C≤w.heap.size
 ne:D.lb≠D.sb∧D.lb≠D.qb∧D.sb≠D.qb
theorem LyAt.to {C:Nat} {w w':World} {D:LyS} {N:NetL} {sg:Nat→Int} {wd:Nat→Bool} {iv tv nv ov:Value} (h:LyAt C w D N sg wd iv tv nv ov) (hb:Bl w w'):LyAt C w' D N sg wd iv tv nv ov :=
 ⟨h.bk.below hb,h.sg.below hb,h.wd.below hb,own_below h.oi hb,own_below h.ot hb,own_below h.on hb,own_below h.oo hb,fun d hd=>⟨own_below (h.ti d hd).1 hb,(h.ti d hd).2⟩,h.f1,h.f2,h.f3,h.f4,h.f5,h.f6,h.lt,Nat.le_trans h.le hb.size,h.ne⟩
theorem LyAt.tab {C:Nat} {w w1 w2:World} {D:LyS} {N:NetL} {sg:Nat→Int} {wd:Nat→Bool} {iv tv nv ov:Value} (h:LyAt C w D N sg wd iv tv nv ov) (hb:Bl w w1) {d:L.TbD} (hd:w1.ownsRow w.heap.size 3 1 (tcl d) d.ins.length (d.ins.map zV)) (hg:w1.grownBy w2 tv.ownBlock) {g cap:Nat} (ho:w2.ownsRow C 53 2 (.slice (some ⟨g,0,none⟩) (N.tabs.length+1) cap) (N.tabs.length+1) (N.tabs.flatMap L.TbD.cells++d.cells)) (hp:tv.ownBlock=some g∨g=w1.heap.size) :
  LyAt C (w2.setCell ⟨D.lb,2,none⟩ (.slice (some ⟨g,0,none⟩) (N.tabs.length+1) cap)) D { N with tabs:=N.tabs++[d] } sg wd iv (.slice (some ⟨g,0,none⟩) (N.tabs.length+1) cap) nv ov:=by
 have h1:=h.to hb
 have hg6:=(But.set D.lb 2 w2 (.slice (some ⟨g,0,none⟩) (N.tabs.length+1) cap)).grown
 have nb:∀ b,b<C→some b≠tv.ownBlock:=fun b hb e=>by have:=own_newB h.ot b e.symm;omega
 have nx:∀ {e sz n:Nat} {x:Value} {xs:List Value},w1.ownsRow C e sz x n xs→FaV tv x→(w2.setCell ⟨D.lb,2,none⟩ (.slice (some ⟨g,0,none⟩) (N.tabs.length+1) cap)).ownsRow C e sz x n xs:=fun hx hf=>own_kept (own_kept hx hg hf.or) hg6 (new_ne (own_newB hx) h.lt.1)
 have s1:=hb.size
 have s2:=hg.size
 have hdC:w1.ownsRow C 3 1 (tcl d) d.ins.length (d.ins.map zV):=own_mono hd h.le
 have fdt:FaV tv (tcl d):=fun k hk e=>by have:=own_lt h.ot k hk;have:=own_newB hd k e;omega
 have fdn:∀ x:Value,∀ {e sz n:Nat} {xs:List Value},w.ownsRow C e sz x n xs→FaV (tcl d) x:=fun x _ _ _ _ hx k hk e=>by have:=own_newB hd k hk;have:=own_lt hx k e;omega
 have fdv:FaV (tcl d) (.slice (some ⟨g,0,none⟩) (N.tabs.length+1) cap):=(fdt.new hd (Nat.le_refl _) (place_of hp)).symm
 refine ⟨?_,?_,?_,nx h1.oi h.f1,?_,nx h1.on h.f2,nx h1.oo h.f3,fun t ht=>?_,h.f1.new h.oi s1 (place_of hp),h.f2.new h.on s1 (place_of hp),h.f3.new h.oo s1 (place_of hp),h.f4,h.f5,h.f6,h.lt,by have:=hg6.size;have:=h1.le;omega,h.ne⟩
 ·exact (blk_kept h1.bk hg (nb _ h.lt.1)).set 2 _
 ·exact blk_kept (blk_kept h1.sg hg (nb _ h.lt.2.1)) hg6 (fun e=>h.ne.1 (by injection e with e;exact e.symm))
 ·exact blk_kept (blk_kept h1.wd hg (nb _ h.lt.2.2)) hg6 (fun e=>h.ne.2.1 (by injection e with e;exact e.symm))
 ·show World.ownsRow _ C 53 2 _ (N.tabs++[d]).length ((N.tabs++[d]).flatMap L.TbD.cells)
  rw [List.flatMap_append,List.length_append,List.flatMap_singleton]
  exact own_kept ho hg6 (new_ne (own_newB ho) h.lt.1)
 ·rcases List.mem_append.1 ht with ht | ht
  ·obtain ⟨k1,k2,k3,k4,k5⟩:=h1.ti t ht
   have k0:=(h.ti t ht).1
   exact ⟨nx k1 k3.symm,k2,(k3.symm.new k0 s1 (place_of hp)).symm,k4,k5⟩
  ·obtain rfl:=List.mem_singleton.1 ht
   exact ⟨nx hdC fdt,fdn _ h.oi,fdv,fdn _ h.on,fdn _ h.oo⟩
end Go.Proofs.Ytlaljeobdddegaa

namespace Go.Proofs.Ytlaljeobdddegaa
open Go.RowKit Mp
set_option maxRecDepth 100000 in
set_option maxHeartbeats 8000000 in
theorem table_any (C0 C:Nat) (w:World) (D:LyS) (N:NetL) (sg:Nat→Int) (wd:Nat→Bool) (iv tv nv ov:Value) (h:LyAt C w D N sg wd iv tv nv ov) (hC0:C0≤D.lb) (b o lc:Nat) (l:List Int) (B:Int) (hr:RowAt w.heap.size w (some ⟨b,o,none⟩) 1 (l.map intC)) (hl:l.length≤1000000) (hni:0≤N.ni∧N.ni≤60000) (hin:N.init.length≤60000) (ht:N.tabs.length≤1000000) :
  Calls Try.prog 36 #[.pointer (some ⟨D.lb,0,none⟩),.slice (some ⟨b,o,none⟩) l.length lc,.int .i64 B] w fun e w'=>∃ (d:L.TbD) (tv':Value),e = .returned (.int .i64 (2+N.ni+N.init.length+N.tabs.length))∧d.ins=l∧d.bits=B∧Hid (LyAt C w' D { N with tabs:=N.tabs++[d] } sg wd iv tv' nv ov)∧Hid (Below C0 w w')∧Hid (∀ k,k<w.heap.size→k≠D.lb→some k≠tv.ownBlock→w'.heap[k]?=w.heap[k]?):=by
 have hlC:=h.lt.1
 have hCw:=h.le
 have HH:=hidden h
 have HZ:Hid (∀ x:World,Bl w x→x.cell? ⟨D.lb,2,none⟩=some tv):=fun x hx=>(h.to hx).bk.cell (i:=2) rfl
 have HCL:Hid (∀ x:World,Bl w x→Calls Try.prog 52 #[.slice (some ⟨b,o,none⟩) l.length lc] x fun e w'=>∃ v,e = .returned v∧Hid (w'.ownsRow x.heap.size 3 1 v l.length (l.map zV))∧Hid (Bl x w')):=fun x hx=>clone_any x b o lc l ((hr.to hx).mono hx.size) hl
 have HOT:Hid (∀ x:World,Bl w x→x.ownsRow C 53 2 tv N.tabs.length (N.tabs.flatMap L.TbD.cells)):=fun x hx=>(h.to hx).ot
 obtain ⟨n,En⟩:=exh l.length
 rw [←En.out] at HCL
 rw [←En.out]
 obtain ⟨nt,Ent⟩:=exh N.tabs.length
 obtain ⟨lb,Elb⟩:=exh D.lb
 rw [←Elb.out] at HZ hlC hC0
 rw [←Elb.out]
 have HQ:Hid (Bl w w.drew):=Below.drew (Below.refl _ _)
 have HFI:Hid (∀ (xc:World) (pa:Option Addr) (pc g c5:Nat) (w5:World),Bl w xc→xc.ownsRow w.heap.size 3 1 (.slice pa n pc) n (l.map zV)→w5.ownsRow C 53 2 (.slice (some ⟨g,0,none⟩) (N.tabs.length+1) c5) (N.tabs.length+1) (N.tabs.flatMap L.TbD.cells++(⟨pa,pc,l,B⟩:L.TbD).cells)→xc.grownBy w5 tv.ownBlock→(tv.ownBlock=some g∨g=xc.heap.size)→(w5.cell? ⟨lb,2,none⟩=some tv∧w5.frozen? ⟨lb,2,none⟩=false)∧Calls Try.prog 53 #[.pointer (some ⟨lb,0,none⟩)] (w5.setCell ⟨lb,2,none⟩ (.slice (some ⟨g,0,none⟩) (N.tabs.length+1) c5)) fun e w'=>e = .returned (.int .i64 (2+N.ni+N.init.length+(N.tabs.length+1:Nat)))∧∃ tv':Value,Hid (LyAt C w' D { N with tabs:=N.tabs++[⟨pa,pc,l,B⟩] } sg wd iv tv' nv ov)∧Hid (Below C0 w w')∧Hid (∀ k,k<w.heap.size→k≠lb→some k≠tv.ownBlock→w'.heap[k]?=w.heap[k]?)):=fun xc pa pc g c5 w5 hx hoa hown hgrow hplace=>by
  have hb5:=blk_kept (HH.out.bk.below hx) hgrow (fun e=>by have:=own_newB HH.out.ot D.lb e.symm;have:=HH.out.lt.1;omega)
  refine ⟨by rw [Elb.out];exact ⟨hb5.cell (i:=2) rfl,hb5.frozen 2⟩,?_⟩
  have hnew:=HH.out.tab hx (d:=⟨pa,pc,l,B⟩) (by unfold tcl;rw [←En.out];exact hoa) hgrow hown hplace
  rw [←Elb.out] at hnew
  have b1:Below C0 w xc:=hx.mono (by omega)
  have b2:Below C0 xc w5:=grow_low hgrow (Nat.le_trans (by omega) b1.size) (fun k hk=>by have:=own_newB HH.out.ot k hk;omega)
  have b3:Below C0 w (w5.setCell ⟨lb,2,none⟩ (.slice (some ⟨g,0,none⟩) (N.tabs.length+1) c5)):=b1.trans (b2.trans ((But.set lb 2 w5 _).below hC0 (Nat.le_trans (by omega) (b1.trans b2).size)))
  obtain ⟨a1,c1,e1⟩:=own_sl hnew.oi
  obtain ⟨a3,c3,e3⟩:=own_sl hnew.on
  obtain ⟨a4,c4,e4⟩:=own_sl hnew.oo
  have hbx:L.BoxAt (w5.setCell ⟨lb,2,none⟩ (.slice (some ⟨g,0,none⟩) (N.tabs.length+1) c5)) lb ⟨a1,c1,some ⟨g,0,none⟩,c5,a3,c3,a4,c4⟩ ⟨N.ni,N.init,N.tabs++[⟨pa,pc,l,B⟩],N.next,N.outs⟩:=by
   have hk:=hnew.bk
   rw [←Elb.out,e1,e3,e4] at hk
   exact ⟨hk.lt,hk.cell (i:=0) rfl,hk.cell (i:=1) rfl,by have:=hk.cell (i:=2) rfl;simpa using this,hk.cell (i:=3) rfl,hk.cell (i:=4) rfl⟩
  refine (L.signals_any _ lb _ _ hbx hni.1 hni.2 (by show N.init.length<L.huge;unfold L.huge;omega) (by show (N.tabs++_).length<L.big;rw [List.length_append,List.length_singleton];unfold L.big;omega)).mono ?_
  rintro e w' ⟨rfl,k,rfl⟩
  refine ⟨?_,_,hnew.to (Below.drewN (Below.refl _ _) k),b3.trans (Below.drewN (Below.refl _ _) k),fun j h1 h2 h3=>((But.set lb 2 w5 _).block j (by have:=hx.size;have:=hgrow.size;omega) h2).trans ((hgrow.block j (by have:=hx.size;omega) h3).trans (hx.block j h1))⟩
  congr 2
  show (2+N.ni+(N.init.length:Int))+((N.tabs++[_]).length:Int)=_
  rw [List.length_append,List.length_singleton]
 rw [←Ent.out] at HFI HOT ht
 rw [←Ent.out]
 clear h hr hl
 go_enter Try.func36,Try.ntmps36
 go_wp2_with fail
 refine wp_region_noPanic ?_
 refine wp_region_held_drew (S:=fun wz=>True) (by kernel_rfl) (by exact True.intro) (fun hHeld=>?_)
 refine tk 0 ?_
 refine tk 1 ?_
 refine tk 2 ?_
 refine tk 3 ?_
 refine tk 4 ?_
 refine tk 6 ?_
 refine tk 8 ?_
 have zz:w.drew.cell? ⟨lb,2,none⟩=some tv:=HZ.out _ HQ.out
 refine wpAnyH_ready (rs:=[5,7]) (by kernel_rfl) (by simp) ?_
 refine AllReadyH.cons (o:=_) rfl (fun K hK=>?cA) (AllReadyH.cons (o:=_) rfl (fun K hK=>?cB) AllReadyH.nil)
 case' cA =>
  (try simp only [gA,gB,gC]);go_simp
  refine wo hK True.intro fun _=>?_
  clear hK K
  clear zz
  refine rd 7 fun K hK=>?_
  (try simp only [gA,gB,gC]);go_simp
  go_at_call 52
  refine (HCL.out _ HQ.out).mono ?_
  rintro e xa ⟨va,rfl,HOa,HBa⟩
  obtain ⟨pa,pc,hva,-,-⟩:=own_ints HOa.out
  subst hva
  replace HQ:Hid (Bl w xa):=Bl.tr HQ.out HBa.out
  clear HBa
  go_wp2_with fail
  refine wo hK True.intro fun _=>?_
  clear hK K
  refine tk 9 ?_
  refine rd 10 fun K hK=>?_
  (try simp only [gA,gB,gC]);go_simp
  obtain ⟨xb,Exb⟩:=exh xa.heap.size
  have hal:Bl xa (xa.alloc (.cells #[.slice pa n pc,.int .i64 B] 53)):=(Below.refl _ _).alloc (Nat.le_refl _) _
  have HKc:Hid (Blk (xa.alloc (.cells #[.slice pa n pc,.int .i64 B] 53)) xb 53 #[.slice pa n pc,.int .i64 B]):=by rw [Exb.out];exact Blk.new xa _ _
  have HOc:=hidden (own_below HOa.out hal)
  replace HQ:Hid (Bl w (xa.alloc (.cells #[.slice pa n pc,.int .i64 B] 53))):=Bl.tr HQ.out hal
  rw [←Exb.out]
  clear hal
  generalize xa.alloc (.cells #[.slice pa n pc,.int .i64 B] 53)=xc at *
  refine wo hK True.intro fun _=>?_
  clear hK K
 case' cB =>
  clear zz
  (try simp only [gA,gB,gC]);go_simp
  go_at_call 52
  refine (HCL.out _ HQ.out).mono ?_
  rintro e xa ⟨va,rfl,HOa,HBa⟩
  obtain ⟨pa,pc,hva,-,-⟩:=own_ints HOa.out
  subst hva
  replace HQ:Hid (Bl w xa):=Bl.tr HQ.out HBa.out
  clear HBa
  go_wp2_with fail
  refine wo hK True.intro fun _=>?_
  clear hK K
  refine tk 9 ?_
  have zz:xa.cell? ⟨lb,2,none⟩=some tv:=HZ.out _ HQ.out
  refine wpAnyH_ready (rs:=[5,10]) (by kernel_rfl) (by simp) ?_
  refine AllReadyH.cons (o:=_) rfl (fun K hK=>?cC) (AllReadyH.cons (o:=_) rfl (fun K hK=>?cD) AllReadyH.nil)
 case' cC =>
  (try simp only [gA,gB,gC]);go_simp
  refine wo hK True.intro fun _=>?_
  clear hK K
  clear zz
  refine rd 10 fun K hK=>?_
  (try simp only [gA,gB,gC]);go_simp
  obtain ⟨xb,Exb⟩:=exh xa.heap.size
  have hal:Bl xa (xa.alloc (.cells #[.slice pa n pc,.int .i64 B] 53)):=(Below.refl _ _).alloc (Nat.le_refl _) _
  have HKc:Hid (Blk (xa.alloc (.cells #[.slice pa n pc,.int .i64 B] 53)) xb 53 #[.slice pa n pc,.int .i64 B]):=by rw [Exb.out];exact Blk.new xa _ _
  have HOc:=hidden (own_below HOa.out hal)
  replace HQ:Hid (Bl w (xa.alloc (.cells #[.slice pa n pc,.int .i64 B] 53))):=Bl.tr HQ.out hal
  rw [←Exb.out]
  clear hal
  generalize xa.alloc (.cells #[.slice pa n pc,.int .i64 B] 53)=xc at *
  refine wo hK True.intro fun _=>?_
  clear hK K
 case' cD =>
  clear zz
  (try simp only [gA,gB,gC]);go_simp
  obtain ⟨xb,Exb⟩:=exh xa.heap.size
  have hal:Bl xa (xa.alloc (.cells #[.slice pa n pc,.int .i64 B] 53)):=(Below.refl _ _).alloc (Nat.le_refl _) _
  have HKc:Hid (Blk (xa.alloc (.cells #[.slice pa n pc,.int .i64 B] 53)) xb 53 #[.slice pa n pc,.int .i64 B]):=by rw [Exb.out];exact Blk.new xa _ _
  have HOc:=hidden (own_below HOa.out hal)
  replace HQ:Hid (Bl w (xa.alloc (.cells #[.slice pa n pc,.int .i64 B] 53))):=Bl.tr HQ.out hal
  rw [←Exb.out]
  clear hal
  generalize xa.alloc (.cells #[.slice pa n pc,.int .i64 B] 53)=xc at *
  refine wo hK True.intro fun _=>?_
  clear hK K
  have zz:xc.cell? ⟨lb,2,none⟩=some tv:=HZ.out _ HQ.out
  refine rd 5 fun K hK=>?_
  (try simp only [gA,gB,gC]);go_simp
  refine wo hK True.intro fun _=>?_
  clear hK K
  clear zz
 all_goals
  refine rd 11 fun K hK=>?_
  refine step_tab _ rfl (.tmp 12) (.tmp 17) rfl C tv nt _ rfl (HOT.out _ HQ.out) xb ⟨pa,pc,l,B⟩ rfl (by unfold L.TbD.cells;rw [←En.out];exact HKc.out) (by omega) (Nat.le_trans hCw HQ.out.size) ?_
  intro g5 c5 w5 hown hgrow hplace
  obtain ⟨⟨y7,f7⟩,hfin⟩:=HFI.out _ pa pc g5 c5 w5 HQ.out HOc.out hown hgrow hplace
  have HSG:=hidden hfin
  clear hown hgrow hplace hfin HFI
  refine wo hK True.intro fun _=>?_
  clear hK K
  refine tk 12 ?_
  refine tk 13 ?_
  refine tk 14 ?_
  refine rd 15 fun K hK=>?_
  (try simp only [gA,gB,gC]);go_simp
  refine wo hK True.intro fun _=>?_
  clear hK K
  refine wpAnyH_done (by kernel_rfl) ?_ _
  refine NoPanic.normal ?_
  go_wp2_with fail
  go_at_call 53
  refine HSG.out.mono ?_
  rintro e w8 ⟨rfl,tv',HL8,HB8,HK8⟩
  have e9:IntKind.i64.wrap (2+N.ni+(N.init.length:Int)+((nt+1:Nat):Int) - 1)=2+N.ni+(N.init.length:Int)+(nt:Int):=by rw [wrapI _ (by omega) (by omega)];omega
  clear HSG
  go_wp2
  go_ret
  exact ⟨⟨pa,pc,l,B⟩,tv',ret_int (by omega),rfl,rfl,HL8.out,HB8.out,HK8.out⟩
end Go.Proofs.Ytlaljeobdddegaa
