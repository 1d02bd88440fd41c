import Derived.Test.YtlaljeobdddegaaJ43
namespace Go.Proofs.Ytlaljeobdddegaa
open Go.RowKit Mp
def insG (sg:Nat→Int) (u:Nat):Int:=if sg (2*u) = -1 then sg (2*u+1) else sg (2*u)
def bitG (sg:Nat→Int) (ls:List Nat) (b:Nat) (k:Nat):Nat:=(List.range k).foldl (fun b i=>if sg (2*ls.getD i 0) = -1 then trnT b i ls.length else b) b
theorem bitG_next (sg:Nat→Int) (ls:List Nat) (b k:Nat) {u:Nat} (h:ls[k]?=some u):bitG sg ls b (k+1)=if sg (2*u) = -1 then trnT (bitG sg ls b k) k ls.length else bitG sg ls b k:=by
 unfold bitG
 rw [List.range_succ,List.foldl_append,List.foldl_cons,List.foldl_nil,List.getD_eq_getElem?_getD,h];rfl
theorem bitG_lt (sg:Nat→Int) (ls:List Nat) (hl:ls.length≤4) (b:Nat) (hb:b<65536):∀ k,bitG sg ls b k<65536
 | 0=>hb
 | k+1=>by
  have ih:=bitG_lt sg ls hl b hb k
  unfold bitG at ih ⊢
  rw [List.range_succ,List.foldl_append,List.foldl_cons,List.foldl_nil]
  split
  ·refine Nat.lt_of_lt_of_le (mkB_lt _ _) ?_
   have h1:2 ^ ls.length≤16:=Nat.pow_le_pow_right (n:=2) (j:=4) (by omega) hl
   exact Nat.pow_le_pow_right (n:=2) (j:=16) (by omega) h1
  ·exact ih
def allB (n:Nat):Nat:=2 ^ 2 ^ n - 1
theorem all_bits (n:Nat) (hn:n≤4):wrap64 (wrap64 (2 ^ min (IntKind.u64.wrap (2 ^ n)).toNat 64) - 1)=((allB n:Nat):Int):=by
 rcases (by omega:n=0∨n=1∨n=2∨n=3∨n=4) with rfl | rfl | rfl | rfl | rfl <;> kernel_rfl
theorem all_lt (n:Nat) (hn:n≤4):allB n<65536:=by
 rcases (by omega:n=0∨n=1∨n=2∨n=3∨n=4) with rfl | rfl | rfl | rfl | rfl <;> decide
def insT (sg:Nat→Int) (ls:List Nat) (k:Nat):Nat→Value:=fun i=>.int .i64 (if i<k then insG sg (ls.getD i 0) else 0)
theorem insT_next (sg:Nat→Int) (ls:List Nat) (k:Nat) {u:Nat} (h:ls[k]?=some u):upd (insT sg ls k) k (.int .i64 (insG sg u))=insT sg ls (k+1):=by
 funext i
 unfold upd insT
 by_cases e:i=k
 ·subst e
  rw [if_pos rfl,if_pos (by omega),List.getD_eq_getElem?_getD,h];rfl
 ·rw [if_neg e]
  by_cases h2:i<k
  ·rw [if_pos h2,if_pos (by omega)]
  ·rw [if_neg h2,if_neg (by omega)]
theorem NumR.to {w w':World} {a:Option Addr} {l:List Nat} (h:NumR w a l) (hb:Bl w w'):NumR w' a l:=fun k x hx=>by
 obtain ⟨b,o,e,hc⟩:=h k x hx
 exact ⟨b,o,e,(hb.cell (p:=⟨b,o+k,none⟩) (cell_lt hc)).trans hc⟩
theorem LyAt.sig {C:Nat} {w:World} {D:LyS} {N:NetL} {sg:Nat→Int} {wd:Nat→Bool} {iv tv nv ov:Value} (h:LyAt C w D N sg wd iv tv nv ov) (l:Nat) (z:Int):LyAt C (w.setCell ⟨D.sb,l,none⟩ (.int .i64 z)) D N (upd sg l z) wd iv tv nv ov:=by
 have hb:=But.set D.sb l w (.int .i64 z)
 have nx:∀ {e sz n:Nat} {x:Value} {xs:List Value},w.ownsRow C e sz x n xs→(w.setCell ⟨D.sb,l,none⟩ (.int .i64 z)).ownsRow C e sz x n xs:=fun hx=>own_kept hx hb.grown (new_ne (own_newB hx) h.lt.2.1)
 refine ⟨hb.blk h.bk h.ne.1,?_,hb.blk h.wd (Ne.symm h.ne.2.2),nx h.oi,nx h.ot,nx h.on,nx h.oo,fun d hd=>⟨nx (h.ti d hd).1,(h.ti d hd).2⟩,h.f1,h.f2,h.f3,h.f4,h.f5,h.f6,h.lt,Nat.le_trans h.le hb.size,h.ne⟩
 have:=h.sg.set l (.int .i64 z)
 rw [tab_set,upd_int] at this
 exact this
def TabP (N N':NetL) (sg sg':Nat→Int) (l:Nat) (ins:List Int) (B:Nat):Prop:=∃ d:L.TbD,d.ins=ins∧d.bits=(B:Int)∧N' = { N with tabs:=N.tabs++[d] }∧sg'=upd sg l (2+N.ni+N.init.length+N.tabs.length)
def GateP (N N2:NetL) (sg sg2:Nat→Int) (wd:Nat→Bool) (v:Nat) (ins:List Int) (B B':Nat):Prop:=∃ N1 sg1,(((wd (2*v) || !wd (2*v+1))=true∧TabP N N1 sg sg1 (2*v) ins B)∨((wd (2*v) || !wd (2*v+1))=false∧N1=N∧sg1=sg))∧((wd (2*v+1)=true∧TabP N1 N2 sg1 sg2 (2*v+1) ins B')∨(wd (2*v+1)=false∧N2=N1∧sg2=sg1))
set_option maxRecDepth 100000 in
set_option maxHeartbeats 8000000 in
theorem gate_any (C0 C:Nat) (w:World) (D:LyS) (N:NetL) (sg:Nat→Int) (wd:Nat→Bool) (iv tv nv ov:Value) (h:LyAt C w D N sg wd iv tv nv ov) (v:Nat) (la:Option Addr) (lc:Nat) (ls:List Nat) (hr:NumR w la ls) (hl:ls.length≤4) (b:Nat) (hb:b<65536) (hlv:∀ u,u ∈ ls→2*u+1<D.M) (hM:D.M≤200000) (hC0:C0≤D.lb∧C0≤D.sb) (hv:2*v+1<D.M) (hni:0≤N.ni∧N.ni≤60000) (hin:N.init.length≤60000) (ht:N.tabs.length+1≤1000000) :
  Calls Try.prog 37 #[.pointer (some ⟨D.lb,0,none⟩),.int .i64 (v:Nat),.slice la ls.length lc,.int .i64 (b:Nat)] w fun e w'=>∃ (N2:NetL) (sg2:Nat→Int) (tv2:Value),(∃ x,e = .returned x)∧Hid (GateP N N2 sg sg2 wd v (ls.map (insG sg)) (bitG sg ls b ls.length) (bitG sg ls b ls.length ^^^ (allB ls.length)))∧Hid (LyAt C w' D N2 sg2 wd iv tv2 nv ov)∧Hid (Below C0 w w'):=by
 have HBL:Hid (∀ k,bitG sg ls b k<65536):=bitG_lt sg ls hl b hb
 obtain ⟨n,En⟩:=exh ls.length
 obtain ⟨w1,hr1,hk1,hb1⟩:=newL (w:=w) (cc:=n) (by have:=En.out;omega)
 obtain ⟨ib,Eib⟩:=exh w.heap.size
 rw [←Eib.out] at hr1 hk1
 have HB1:=hidden hb1
 have HK1:Hid (Blk w1 ib 3 (tabL n (insT sg ls 0)).toArray):=by
  have e:insT sg ls 0=fun _=>Value.int .i64 0:=by
   funext i;unfold insT;rw [if_neg (by omega)]
  rw [e];exact hk1
 have HH:=hidden h
 have HR:=hidden hr
 have HLV:=hidden hlv
 obtain ⟨lb,Elb⟩:=exh D.lb
 obtain ⟨sb,Esb⟩:=exh D.sb
 obtain ⟨M,EM⟩:=exh D.M
 have HSG:Hid (∀ x:World,Bl w x→x.cell? ⟨lb,5,none⟩=some (.slice (some ⟨sb,0,none⟩) M M)∧∀ l,l<M→x.cell? ⟨sb,l,none⟩=some (.int .i64 (sg l))):=fun x hx=>by
  rw [Elb.out,Esb.out,EM.out]
  exact ⟨(h.to hx).bk.cell (i:=5) rfl,fun l hl=>(h.to hx).sg.cell (tab_get hl)⟩
 rw [←EM.out] at HLV hM
 rw [←Elb.out,←En.out]
 rw [←En.out] at hl
 clear h hr hlv hk1 hb1
 go_enter Try.func37,Try.ntmps37
 go_wp2_with fail
 clear hr1
 go_loopw [3,9,10,17] (fun b' _ _ i' w'=>∃ k B:Nat,k≤n∧i' = .int .i64 (k:Int)∧b' = .int .i64 (B:Int)∧Hid (B=bitG sg ls b k)∧Hid (Blk w' ib 3 (tabL n (insT sg ls k)).toArray)∧Hid (Bl w w')) (fun _ _ _ i' _=>n - (intOf i').toNat)
 case atStart=>exact ⟨0,b,Nat.zero_le _,rfl,rfl,rfl,HK1.out,HB1.out⟩
 case round =>
  clear HK1 HB1
  obtain ⟨k,B,hk,rfl,rfl,HBB,HK,HB⟩:=hrel
  by_cases hlt:k<n
  ·have hltI:(k:Int)<(n:Int):=by omega
   obtain ⟨u,hu⟩:=getElem_lt (show k<ls.length by rw [←En.out];exact hlt)
   obtain ⟨bb,oo,ea,cx⟩:=(HR.out.to HB.out) k u hu
   have huM:=HLV.out u (List.mem_of_getElem? hu)
   have e2:IntKind.i64.wrap ((k:Int)+1)=(k:Int)+1:=wrapI _ (by omega) (by omega)
   have e3:IntKind.i64.wrap (2*(u:Int))=((2*u:Nat):Int):=by rw [wrapI _ (by omega) (by omega)];omega
   have e4:IntKind.i64.wrap (((2*u:Nat):Int)+1)=((2*u+1:Nat):Int):=by rw [wrapI _ (by omega) (by omega)];omega
   obtain ⟨k5,ks⟩:=HSG.out wr HB.out
   have s0:=ks (2*u) (by omega)
   have hp:(insT sg ls k k) = .int .i64 0:=by unfold insT;rw [if_neg (by omega)]
   have i0:wr.cell? ⟨ib,k,none⟩=some (.int .i64 0):=by rw [←hp];exact HK.out.cell (tab_get hlt)
   have i0f:=HK.out.frozen k
   obtain ⟨x0,Ex0⟩:=exh (sg (2*u))
   rw [←Ex0.out] at s0
   obtain ⟨w2,Ew2⟩:=exh (wr.setCell ⟨ib,k,none⟩ (.int .i64 x0))
   have hbt:But ib wr w2:=by rw [Ew2.out];exact But.set _ _ _ _
   have HB2:Hid (Bl w w2):=HB.out.trans (hbt.below (by rw [Eib.out];exact Nat.le_refl _) HB.out.size)
   have hk2:Blk w2 ib 3 (tabL n (upd (insT sg ls k) k (.int .i64 x0))).toArray:=by
    rw [Ew2.out,←tab_set];exact HK.out.set k _
   have i2:w2.cell? ⟨ib,k,none⟩=some (.int .i64 x0):=by
    have:=hk2.cell (tab_get hlt)
    rwa [upd_same] at this
   have HBN:=hidden (bitG_next sg ls b k hu)
   have HIN:=hidden (insT_next sg ls k hu)
   obtain ⟨m1,Em1⟩:=exh (2*u)
   rw [←Em1.out] at e3 s0 e4 huM
   obtain ⟨m2,Em2⟩:=exh (m1+1)
   rw [←Em2.out] at e4
   have hm1I:(m1:Int)<(M:Int):=by omega
   have hm2I:(m2:Int)<(M:Int):=by have:=Em2.out;omega
   by_cases hx:x0 = -1
   ·obtain ⟨k52,ks2⟩:=HSG.out w2 HB2.out
    have s1:=ks2 m2 (by have:=Em2.out;omega)
    have i2f:=hk2.frozen k
    obtain ⟨x1,Ex1⟩:=exh (sg m2)
    rw [←Ex1.out] at s1
    have hg:insG sg u=x1:=by
     unfold insG
     rw [←Ex0.out,if_pos hx,Ex1.out,Em2.out,Em1.out]
    have hbt3:=But.set ib k w2 (.int .i64 x1)
    have HB3:Hid (Bl w (w2.setCell ⟨ib,k,none⟩ (.int .i64 x1))):=HB2.out.trans (hbt3.below (by rw [Eib.out];exact Nat.le_refl _) HB2.out.size)
    have HK3:Hid (Blk (w2.setCell ⟨ib,k,none⟩ (.int .i64 x1)) ib 3 (tabL n (insT sg ls (k+1))).toArray):=by
     show Blk _ _ _ _
     rw [←HIN.out,hg]
     have:=hk2.set k (.int .i64 x1)
     rw [tab_set] at this
     have e:upd (upd (insT sg ls k) k (Value.int .i64 x0)) k (.int .i64 x1)=upd (insT sg ls k) k (.int .i64 x1):=by
      funext j;unfold upd;split <;> rfl
     rw [e] at this
     exact this
    have TU:=hidden (turned_any (w2.setCell ⟨ib,k,none⟩ (.int .i64 x1)) B k n hlt hl)
    have HB4:Hid (trnT B k n=bitG sg ls b (k+1)):=by
     show _=_
     rw [HBN.out,←Ex0.out,if_pos hx,←HBB.out,En.out]
    generalize trnT B k n=B2 at *
    subst hx
    subst ea
    clear hu ks ks2 hp hk2 hbt hbt3 HBB HK HB hg huM
    go_upto_region 5 with fail
    rw [←Ew2.out]
    clear i0 i0f k5 s0 cx
    go_wp2_with fail
    go_at_call 54
    refine TU.out.mono ?_
    rintro e w5 ⟨rfl,rfl⟩
    clear TU
    go_wp2
    go_roundw
    case measure=>simp [intOf];omega
    case rel=>exact ⟨k+1,B2,by omega,by simp,rfl,HB4.out,HK3.out,HB3.out⟩
   ·have hg:insG sg u=x0:=by
     unfold insG
     rw [←Ex0.out,if_neg hx]
    have HK3:Hid (Blk w2 ib 3 (tabL n (insT sg ls (k+1))).toArray):=by
     show Blk _ _ _ _
     rw [←HIN.out,hg];exact hk2
    have HB4:Hid (B=bitG sg ls b (k+1)):=by
     show _=_
     rw [HBN.out,←Ex0.out,if_neg hx,←HBB.out]
    subst ea
    clear hu ks hp hk2 hbt HBB HK HB hg huM
    go_upto_region 5 with fail
    rw [←Ew2.out]
    clear i0 i0f k5 s0 cx
    go_wp2
    go_roundw
    case measure=>simp [intOf];omega
    case rel=>exact ⟨k+1,B,by omega,by simp,rfl,HB4.out,HK3.out,HB2.out⟩
  ·have hge:¬ (k:Int)<(n:Int):=by omega
   have hkn:k=n:=by omega
   have HLY:=hidden (HH.out.to HB.out)
   have HBn:Hid (B=bitG sg ls b n):=by rw [←hkn];exact HBB.out
   have HKn:Hid (Blk wr ib 3 (tabL n (insT sg ls n)).toArray):=by
    have:=HK.out
    rw [hkn] at this
    exact this
   obtain ⟨I,EI⟩:=exh (ls.map (insG sg))
   have HIR:Hid (∀ x:World,x.heap[ib]?=wr.heap[ib]?→wr.heap.size≤x.heap.size→RowAt x.heap.size x (some ⟨ib,0,none⟩) 1 (I.map intC)):=fun x hx hs _=>by
    have hk:Blk x ib 3 (tabL n (insT sg ls n)).toArray:=hx.trans HKn.out
    refine ⟨ib,0,rfl,hk.lt,fun i el hi j v hv=>?_⟩
    rw [List.getElem?_map,EI.out,List.getElem?_map] at hi
    cases hl2:ls[i]? with
    | none=>rw [hl2] at hi;cases hi
    | some y =>
     rw [hl2] at hi
     have e2:intC (insG sg y)=el:=by simpa using hi
     rw [←e2] at hv
     have hil:i<n:=by rw [En.out];exact (List.getElem?_eq_some_iff.1 hl2).1
     cases j with
     | zero =>
      have e3:Value.int .i64 (insG sg y)=v:=by simpa [intC] using hv
      have:=hk.cell (tab_get hil)
      unfold insT at this
      rw [if_pos hil,List.getD_eq_getElem?_getD,hl2] at this
      rw [←e3,Nat.zero_add,Nat.mul_one,Nat.add_zero]
      exact this
     | succ j=>simp [intC] at hv
   have hIl:I.length=n:=by rw [EI.out,List.length_map,En.out]
   have hiw:ib<wr.heap.size:=HKn.out.lt
   have htv:some ib≠tv.ownBlock:=fun e=>by have:=own_lt HH.out.ot ib e.symm;have:=Eib.out;omega
   have hil:ib≠lb:=fun e=>by have:=HH.out.lt.1;have:=HH.out.le;have:=Eib.out;have:=Elb.out;omega
   have his:ib≠sb:=fun e=>by have:=HH.out.lt.2.1;have:=HH.out.le;have:=Eib.out;have:=Esb.out;omega
   have hCw:C0≤w.heap.size:=by have:=HH.out.lt.1;have:=HH.out.le;omega
   rw [←Elb.out] at hC0
   rw [←Esb.out] at hC0
   have HBW:Hid (Below C0 w wr):=HB.out.mono hCw
   obtain ⟨qb,Eqb⟩:=exh D.qb
   obtain ⟨m0,Em0⟩:=exh (2*v)
   obtain ⟨m1,Em1⟩:=exh (m0+1)
   rw [←EM.out] at hv
   have hm0:m0<M:=by have:=Em0.out;omega
   have hm1:m1<M:=by have:=Em0.out;have:=Em1.out;omega
   have hm0I:(m0:Int)<(M:Int):=by omega
   have hm1I:(m1:Int)<(M:Int):=by omega
   have e6:IntKind.i64.wrap (2*(v:Int))=(m0:Int):=by rw [wrapI _ (by omega) (by omega)];have:=Em0.out;omega
   have e7:IntKind.i64.wrap ((m0:Int)+1)=(m1:Int):=by rw [wrapI _ (by omega) (by omega)];have:=Em1.out;omega
   obtain ⟨a0,Ea0⟩:=exh (wd (2*v))
   obtain ⟨a1,Ea1⟩:=exh (wd (2*v+1))
   have HQ:Hid (∀ (x:World) (N':NetL) (sg':Nat→Int) (tv':Value),LyAt C x D N' sg' wd iv tv' nv ov→x.cell? ⟨lb,5,none⟩=some (.slice (some ⟨sb,0,none⟩) M M)∧x.cell? ⟨lb,6,none⟩=some (.slice (some ⟨qb,0,none⟩) M M)∧x.cell? ⟨qb,m0,none⟩=some (.bool a0)∧x.cell? ⟨qb,m1,none⟩=some (.bool a1)∧∀ l,l<M→x.cell? ⟨sb,l,none⟩=some (.int .i64 (sg' l))∧x.frozen? ⟨sb,l,none⟩=false):=fun x N' sg' tv' hx=>by
    have hc0:=hx.wd.cell (tab_get (show m0<D.M by rw [←EM.out];exact hm0))
    have hc1:=hx.wd.cell (tab_get (show m1<D.M by rw [←EM.out];exact hm1))
    rw [show wd m0=a0 by rw [Em0.out,Ea0.out],←Eqb.out] at hc0
    rw [show wd m1=a1 by rw [Em1.out,Em0.out,Ea1.out],←Eqb.out] at hc1
    refine ⟨?_,?_,hc0,hc1,fun l hl=>?_⟩
    ·rw [Elb.out,Esb.out,EM.out];exact hx.bk.cell (i:=5) rfl
    ·rw [Elb.out,Eqb.out,EM.out];exact hx.bk.cell (i:=6) rfl
    ·rw [Esb.out];exact ⟨hx.sg.cell (tab_get (by rw [←EM.out];exact hl)),hx.sg.frozen l⟩
   have hsl:lb≠sb:=by rw [Elb.out,Esb.out];exact HH.out.ne.1
   have T1:=hidden (table_any C0 C wr.drew D N sg wd iv tv nv ov (HLY.out.to (Below.drew (Below.refl _ _))) (by rw [←Elb.out];exact hC0.1) ib 0 n I (B:Int) (HIR.out wr.drew rfl (Nat.le_refl _)) (by rw [hIl];omega) hni hin (by omega))
   rw [←Elb.out,hIl] at T1
   obtain ⟨S0,ES0⟩:=exh (2+N.ni+N.init.length+N.tabs.length)
   rw [←ES0.out] at T1
   obtain ⟨k5,k6,kq0,kq1,ks⟩:=HQ.out _ _ _ _ HLY.out
   clear hkn HK HBB HB ks hge
   cases a0 <;> cases a1
   case' true.true | true.false | false.false =>
    go_wp2_with fail
    refine wp_region_noPanic ?_
    refine wp_region_held_drew (S:=fun wz=>wz.cell? ⟨lb,5,none⟩=some (.slice (some ⟨sb,0,none⟩) M M)) (by kernel_rfl) (by exact k5) (fun hHeld=>?_)
    refine tk 0 ?_
    refine tk 1 ?_
    refine tk 2 ?_
    refine tk 3 ?_
    refine tk 4 ?_
    refine tk 5 ?_
    refine tk 6 ?_
    refine tk 7 ?_
    refine tk 8 ?_
    refine rd 9 fun K hK=>?_
    (try simp only [gA,gB,gC]);go_simp
    go_at_call 36
    refine T1.out.mono ?_
    rintro e x5 ⟨d,tv1,rfl,hd1,hd2,HL5,HB5,HK5⟩
    obtain ⟨k55,-,-,-,ks5⟩:=HQ.out _ _ _ _ HL5.out
    obtain ⟨c5,f5⟩:=ks5 m0 hm0
    go_wp2_with fail
    refine wo hK k55 fun _=>?_
    clear hK K ks5
    refine tk 10 ?_
    refine rd 11 fun K hK=>?_
    (try simp only [gA,gB,gC]);go_simp
    refine wo hK ((But.set sb m0 x5 _).cell k55 hsl) fun _=>?_
    clear hK K
    refine wpAnyH_done (by kernel_rfl) ?_ _
    refine NoPanic.normal ?_
    obtain ⟨x6,Ex6⟩:=exh (x5.setCell ⟨sb,m0,none⟩ (.int .i64 S0))
    have HL6:Hid (LyAt C x6 D { N with tabs:=N.tabs++[d] } (upd sg m0 S0) wd iv tv1 nv ov):=by rw [Ex6.out,Esb.out];exact HL5.out.sig m0 S0
    have HB6:Hid (Below C0 w x6):=by
     rw [Ex6.out]
     have b1:Below C0 w x5:=(Below.drew HBW.out).trans HB5.out
     exact b1.trans ((But.set sb m0 x5 _).below hC0.2 (Nat.le_trans hCw b1.size))
    have HI6:Hid (x6.heap[ib]?=wr.heap[ib]?∧wr.heap.size≤x6.heap.size):=by
     have s5:wr.heap.size≤x5.heap.size:=HB5.out.size
     have hbt:But sb x5 x6:=by rw [Ex6.out];exact But.set _ _ _ _
     exact ⟨(hbt.block ib (by omega) his).trans (HK5.out ib hiw hil htv),Nat.le_trans s5 hbt.size⟩
    obtain ⟨N1,EN1⟩:=exh ({ N with tabs:=N.tabs++[d] }:NetL)
    obtain ⟨sg1,Esg1⟩:=exh (upd sg m0 S0)
    rw [←EN1.out,←Esg1.out] at HL6
    have HN1:Hid (N1.ni=N.ni∧N1.init=N.init∧N1.tabs.length≤N.tabs.length+1):=by
     rw [EN1.out]
     exact ⟨rfl,rfl,by show (N.tabs++[d]).length≤_;simp⟩
    have HP1:Hid (((wd (2*v) || !wd (2*v+1))=true∧TabP N N1 sg sg1 (2*v) I B)∨((wd (2*v) || !wd (2*v+1))=false∧N1=N∧sg1=sg)):=Or.inl ⟨by rw [←Ea0.out,←Ea1.out];rfl,d,hd1,hd2,EN1.out,by rw [Esg1.out,Em0.out,ES0.out]⟩
    rw [←Ex6.out]
    clear hd1 hd2 HL5 HB5 HK5 k55 c5 f5 Ex6 EN1 Esg1 hHeld k5 k6 kq0 kq1
   case' false.true =>
    obtain ⟨x6,Ex6⟩:=exh wr
    obtain ⟨N1,EN1⟩:=exh N
    obtain ⟨sg1,Esg1⟩:=exh sg
    obtain ⟨tv1,Etv1⟩:=exh tv
    have HL6:Hid (LyAt C x6 D N1 sg1 wd iv tv1 nv ov):=by rw [Ex6.out,EN1.out,Esg1.out,Etv1.out];exact HLY.out
    have HB6:Hid (Below C0 w x6):=by rw [Ex6.out];exact HBW.out
    have HI6:Hid (x6.heap[ib]?=wr.heap[ib]?∧wr.heap.size≤x6.heap.size):=by rw [Ex6.out];exact ⟨rfl,Nat.le_refl _⟩
    have HN1:Hid (N1.ni=N.ni∧N1.init=N.init∧N1.tabs.length≤N.tabs.length+1):=by
     rw [EN1.out]
     exact ⟨rfl,rfl,Nat.le_succ _⟩
    have HP1:Hid (((wd (2*v) || !wd (2*v+1))=true∧TabP N N1 sg sg1 (2*v) I B)∨((wd (2*v) || !wd (2*v+1))=false∧N1=N∧sg1=sg)):=Or.inr ⟨by rw [←Ea0.out,←Ea1.out];rfl,EN1.out,Esg1.out⟩
    go_upto_region 11 with fail
    rw [←Ex6.out]
    clear Ex6 EN1 Esg1 Etv1 k5 k6 kq0 kq1
   all_goals
    obtain ⟨-,k66,-,kq6,-⟩:=HQ.out _ _ _ _ HL6.out
    have HRW:=hidden (HIR.out x6 HI6.out.1 HI6.out.2)
    clear T1 HIR HI6 HKn HLY HBW
    by_cases hA1:wd (2*v+1)=true
    case' neg =>
     have HG:Hid (GateP N N1 sg sg1 wd v (ls.map (insG sg)) (bitG sg ls b n) (bitG sg ls b n ^^^ allB n)):=by
      rw [←EI.out,←HBn.out]
      exact ⟨N1,sg1,HP1.out,Or.inr ⟨by simpa using hA1,rfl,rfl⟩⟩
     first
      | (exact absurd Ea1.out.symm hA1)
      | (
       clear hA1
       go_wp2_with fail
       go_end0
       exact ⟨N1,sg1,tv1,⟨_,rfl⟩,HG.out,HL6.out,HB6.out⟩)
    first
     | (exact absurd (Ea1.out.trans hA1) (by decide))
     | skip
   all_goals
    have AB:=hidden (all_bits n hl)
    have hAl:=all_lt n hl
    obtain ⟨A,EA⟩:=exh (allB n)
    rw [←EA.out] at AB hAl
    have hB6:B<65536:=by rw [HBn.out];exact HBL.out n
    have hxo:=xor_twoN B A (by omega) (by omega)
    obtain ⟨B2,EB2⟩:=exh (B ^^^ A)
    rw [←EB2.out] at hxo
    have hN1:=HN1.out
    have T2:=hidden (table_any C0 C x6.drew D N1 sg1 wd iv tv1 nv ov (HL6.out.to (Below.drew (Below.refl _ _))) (by rw [←Elb.out];exact hC0.1) ib 0 n I (B2:Int) HRW.out (by rw [hIl];omega) (by rw [hN1.1];exact hni) (by rw [hN1.2.1];exact hin) (by omega))
    rw [←Elb.out,hIl] at T2
    obtain ⟨S1,ES1⟩:=exh (2+N1.ni+N1.init.length+N1.tabs.length)
    rw [←ES1.out] at T2
    obtain ⟨k56,-,-,-,-⟩:=HQ.out _ _ _ _ HL6.out
    clear hN1
    go_wp2_with fail
    rw [AB.out]
    clear AB k66 kq6
    refine wp_region_noPanic ?_
    refine wp_region_held_drew (S:=fun wz=>wz.cell? ⟨lb,5,none⟩=some (.slice (some ⟨sb,0,none⟩) M M)) (by kernel_rfl) (by exact k56) (fun hHeld=>?_)
    refine tk 0 ?_
    refine tk 1 ?_
    refine tk 2 ?_
    refine tk 3 ?_
    refine tk 4 ?_
    refine tk 5 ?_
    refine tk 6 ?_
    refine tk 7 ?_
    refine tk 8 ?_
    refine tk 9 ?_
    refine tk 10 ?_
    refine tk 11 ?_
    refine rd 12 fun K hK=>?_
    (try simp only [gA,gB,gC]);go_simp
    go_at_call 36
    refine T2.out.mono ?_
    rintro e x7 ⟨d2,tv2,rfl,hd1,hd2,HL7,HB7,-⟩
    obtain ⟨k57,-,-,-,ks7⟩:=HQ.out _ _ _ _ HL7.out
    obtain ⟨c7,f7⟩:=ks7 m1 hm1
    go_wp2_with fail
    refine wo hK k57 fun _=>?_
    clear hK K ks7
    refine tk 13 ?_
    refine rd 14 fun K hK=>?_
    (try simp only [gA,gB,gC]);go_simp
    refine wo hK ((But.set sb m1 x7 _).cell k57 hsl) fun _=>?_
    clear hK K
    refine wpAnyH_done (by kernel_rfl) ?_ _
    refine NoPanic.normal ?_
    have HL8:Hid (LyAt C (x7.setCell ⟨sb,m1,none⟩ (.int .i64 S1)) D { N1 with tabs:=N1.tabs++[d2] } (upd sg1 m1 S1) wd iv tv2 nv ov):=by rw [Esb.out];exact HL7.out.sig m1 S1
    have HB8:Hid (Below C0 w (x7.setCell ⟨sb,m1,none⟩ (.int .i64 S1))):=by
     have b1:Below C0 w x7:=(Below.drew HB6.out).trans HB7.out
     exact b1.trans ((But.set sb m1 x7 _).below hC0.2 (Nat.le_trans hCw b1.size))
    have HG:Hid (GateP N { N1 with tabs:=N1.tabs++[d2] } sg (upd sg1 m1 S1) wd v (ls.map (insG sg)) (bitG sg ls b n) (bitG sg ls b n ^^^ allB n)):=by
     rw [←EI.out,←HBn.out,←EA.out,←EB2.out]
     exact ⟨N1,sg1,HP1.out,Or.inl ⟨Ea1.out.symm,d2,hd1,hd2,rfl,by rw [Em1.out,Em0.out,ES1.out]⟩⟩
    clear hd1 hd2 c7 f7 k57 hHeld
    go_wp2_with fail
    go_end0
    exact ⟨{ N1 with tabs:=N1.tabs++[d2] },upd sg1 m1 S1,tv2,⟨_,rfl⟩,HG.out,HL8.out,HB8.out⟩
end Go.Proofs.Ytlaljeobdddegaa
