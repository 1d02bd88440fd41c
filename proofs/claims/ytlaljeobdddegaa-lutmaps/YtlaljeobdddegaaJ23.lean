import Derived.Test.YtlaljeobdddegaaJ05
import Derived.Test.YtlaljeobdddegaaJ22
namespace Go.Proofs.Ytlaljeobdddegaa.L
open Go.RowKit
set_option maxRecDepth 100000 in
set_option maxHeartbeats 16000000 in
theorem tablesValid_small (w:World) (S:NtS) (N:NtD) (hs:¬ N.small) :
  Calls Try.prog 8 #[.agg (S.cells N)] w fun e w'=>e = .returned (.bool false)∧Below w.heap.size w w':=by
 have hcs:N.ins<0∨(0≤N.ins∧60000<N.ins)∨(0≤N.ins∧N.ins≤60000∧60000<(N.outs.length:Int))∨(0≤N.ins∧N.ins≤60000∧(N.outs.length:Int)≤60000∧(N.next.length:Int)≠(N.init.length:Int)):=by
  unfold NtD.small at hs;omega
 clear hs
 unfold NtS.cells at *
 rcases hcs with g1 | ⟨g0,g1⟩ | ⟨g0,g1,g2⟩ | ⟨g0,g1,g2,g3⟩
 rotate_left 3
 have g4:(((N.next.length:Nat):Int) != ((N.init.length:Nat):Int))=true:=bne_iff_ne.2 g3
 all_goals
  go_enter Try.func8,Try.ntmps8
  go_wp2
  go_ret
  exact ⟨rfl,(Below.refl _ _).alloc (Nat.le_refl _) _⟩
set_option maxRecDepth 100000 in
set_option maxHeartbeats 16000000 in
theorem tablesValid_rest (B:Nat) (w:World) (S:NtS) (N:NtD) (h:NtAt B w S N) (hB:B≤w.heap.size) (hs:N.small) (r:Bool) (HR:Hid (r=((List.range N.tabs.length).all (tabOk N) && N.next.all (sigOk N.sigs) && N.outs.all (sigOk N.sigs)))) :
  Calls Try.prog 8 #[.agg (S.cells N)] w fun e w'=>e = .returned (.bool r)∧Below w.heap.size w w':=by
 obtain ⟨g0,g1,g2',g3'⟩:=hs
 have g2:(N.outs.length:Int)≤60000:=by omega
 have g3:(((N.next.length:Nat):Int) != ((N.init.length:Nat):Int))=false:=by rw [g3'];exact bne_self_eq_false _
 have l1:=h.li
 have l2:=h.lt
 have l3:=h.ln
 simp only [big,huge] at l1 l2 l3
 have SA:Hid (∀ w,Calls Try.prog 22 #[.agg #[.int .i64 N.ins,.slice S.a1 N.init.length S.c1,.slice S.a2 N.tabs.length S.c2,.slice S.a3 N.next.length S.c3,.slice S.a4 N.outs.length S.c4]] w fun e w'=>e = .returned (.int .i64 N.sigs)∧Below w.heap.size w w'):=fun w=>signals_doc w S N g0 g1 h.li h.lt
 have HNV:Hid (N.sigs=N.first+N.tabs.length):=rfl
 have HFV:Hid (N.first=2+N.ins+N.init.length):=rfl
 have HTO:Hid (∀ k d,N.tabs[k]?=some d→tabOk N k=d.ok (N.first+k)):=fun k d hd=>tabOk_of hd
 have hnf:0≤N.first∧N.first≤300000000000000:=by rw [HFV.out];omega
 have hnn:0≤N.sigs∧N.sigs≤600000000000000:=by rw [HNV.out];omega
 generalize N.sigs=n at *
 unfold NtS.cells at *
 clear g2' g3' HNV
 go_enter Try.func8,Try.ntmps8
 go_upto_region 1 with fail
 generalize hW:World.alloc w _=W
 obtain ⟨pg,hpg⟩:∃ x,x=w.heap.size:=⟨_,rfl⟩
 have HB1:Hid (Below w.heap.size w W):=by rw [←hW];exact (Below.refl _ _).alloc (Nat.le_refl _) _
 have HX:Hid (BoxAt W pg S N):=by rw [←hW,hpg];exact BoxAt.new w S N
 rw [←hpg]
 have hwW:w.heap.size≤W.heap.size:=HB1.out.size
 have HAW:Hid (NtAt B W S N):=h.to (HB1.out.mono hB)
 have hBW:B≤W.heap.size:=Nat.le_trans hB hwW
 clear hW hpg h
 have q0:=HX.out.c0
 have q1:=HX.out.c1
 have q2:=HX.out.c2
 have q3:=HX.out.c3
 have q4:=HX.out.c4
 go_upto_region 4 with fail
 obtain ⟨F,HFF0⟩:∃ x,Hid (x=N.first):=⟨_,rfl⟩
 rw [show (2+N.ins+(N.init.length:Int))=F by rw [HFF0.out,HFV.out]]
 rw [←HFF0.out] at HTO hnf
 clear HFV HFF0 q0 q1 q3 q4
 go_wp2_with fail
 clear q2
 go_loopw [4] (fun i' w'=>∃ (k:Nat),k≤N.tabs.length∧i' = .int .i64 k∧Hid ((List.range k).all (tabOk N)=true)∧Hid (Below W.heap.size W w')) (fun i' _=>N.tabs.length - (intOf i').toNat)
 case atStart=>exact ⟨0,Nat.zero_le _,rfl,rfl,Below.refl _ _⟩
 case round =>
  obtain ⟨k,hk,rfl,HA,HBE⟩:=hrel
  have q2:wr.cell? ⟨pg,2,none⟩=some (.slice S.a2 N.tabs.length S.c2):=(HX.out.to HX.out.lt HBE.out).c2
  by_cases hlt:k<N.tabs.length
  ·obtain ⟨d,hd⟩:=getElem_lt hlt
   obtain ⟨b,o,ea,hlb,hc⟩:=HAW.out.t.el hd
   have hbW:b<W.heap.size:=Nat.lt_of_lt_of_le hlb hBW
   have HRI:=hidden (HAW.out.ti d (List.mem_of_getElem? hd))
   have HLI:=hidden (HAW.out.lti d (List.mem_of_getElem? hd))
   have HAK:=hidden (HTO.out k d hd)
   obtain ⟨da,dc,ins,bits⟩:=d
   have c0:wr.cell? ⟨b,o+k*2,none⟩=some (.slice da ins.length dc):=(HBE.out.cell (p:=⟨b,o+k*2,none⟩) hbW).trans (hc 0 _ rfl)
   have c1:wr.cell? ⟨b,o+k*2+1,none⟩=some (.int .i64 bits):=(HBE.out.cell (p:=⟨b,o+k*2+1,none⟩) hbW).trans (hc 1 _ rfl)
   have hltI:(k:Int)<(N.tabs.length:Int):=by omega
   have e2:IntKind.i64.wrap ((k:Int)+1)=(k:Int)+1:=wrapI _ (by omega) (by omega)
   have e3:IntKind.i64.wrap (F+(k:Int))=F+(k:Int):=wrapI _ (by omega) (by omega)
   dsimp only at HRI HLI
   have HOK:Hid (tabOk N k=(decide (ins.length≤4) && ins.all (sigOk (F+k)) && decide (0≤bits∧bits<pw ins.length))):=HAK.out
   obtain ⟨m,HM⟩:∃ m,Hid (m=ins.length):=⟨_,rfl⟩
   rw [←HM.out] at c0 HOK HLI
   have hml:=HLI.out
   simp only [big] at hml
   rw [ea] at q2
   clear hd hc ea hlb HAK HLI
   have HFK:Hid (tabOk N k=false→r=false):=fun hf=>by rw [HR.out,range_false hlt hf];rfl
   by_cases h4:m≤4
   ·have h4I:¬ (4<(m:Int)):=by omega
    have s1:=shifts m h4
    have em:IntKind.u64.wrap (m:Int)=(m:Int):=by rw [IntKind.wrap_u64];omega
    by_cases b0:bits<0
    ·have HF:Hid (r=false):=HFK.out (by rw [HOK.out,decide_eq_false (p:=0≤bits∧_) (by omega),Bool.and_false])
     have HBE:=hidden ((HBE.out).alloc HBE.out.size (.cells #[.slice da m dc,.int .i64 bits] 53))
     clear HR
     go_wp2
     go_ret
     exact ⟨ret_bool HF.out.symm,HB1.out.trans (HBE.out.mono hwW)⟩
    ·by_cases b1:pw m≤bits
     ·have HF:Hid (r=false):=HFK.out (by rw [HOK.out,decide_eq_false (p:=0≤bits∧_) (by omega),Bool.and_false])
      have HBE:=hidden ((HBE.out).alloc HBE.out.size (.cells #[.slice da m dc,.int .i64 bits] 53))
      generalize pw m=P at *
      clear HR
      go_wp2
      go_ret
      exact ⟨ret_bool HF.out.symm,HB1.out.trans (HBE.out.mono hwW)⟩
     ·have HBT:Hid (decide (0≤bits∧bits<pw m)=true):=decide_eq_true (by omega)
      have b1I:bits<pw m:=by omega
      rw [HBT.out,decide_eq_true h4,Bool.true_and,Bool.and_true] at HOK
      generalize pw m=P at *
      go_upto_region 8 with fail
      generalize hW5:World.alloc wr _=w5
      have HB5:Hid (Below W.heap.size W w5):=by rw [←hW5];exact HBE.out.alloc HBE.out.size _
      have z0:w5.cell? ⟨wr.heap.size,0,none⟩=some (.slice da m dc):=by rw [←hW5];simp
      have z1:w5.cell? ⟨wr.heap.size,1,none⟩=some (.int .i64 bits):=by rw [←hW5];simp
      clear hW5 c0 c1 HBE q2
      generalize wr.heap.size=zb at *
      clear HBT b1
      go_wp2_with fail
      clear z1 s1
      go_loopw [6] (fun j' w'=>∃ (j:Nat),j≤m∧j' = .int .i64 j∧Hid ((ins.take j).all (sigOk (F+k))=true)∧Hid (w'=w5)) (fun j' _=>m - (intOf j').toNat)
      case atStart=>exact ⟨0,Nat.zero_le _,rfl,rfl,rfl⟩
      case round =>
       obtain ⟨j,hj,rfl,HJ,HW5⟩:=hrel
       rw [←HW5.out] at z0 HB5
       by_cases hjl:j<m
       ·have hjI:(j:Int)<(m:Int):=by omega
        obtain ⟨x,hd⟩:=getElem_lt (show j<ins.length by rw [←HM.out];exact hjl)
        obtain ⟨b',o',ea',hlb',hcx⟩:=HRI.out.int hd
        have HD:=hidden hd
        have cx:wr.cell? ⟨b',o'+j,none⟩=some (.int .i64 x):=(HB5.out.cell (p:=⟨b',o'+j,none⟩) (Nat.lt_of_lt_of_le hlb' hBW)).trans hcx
        rw [ea'] at z0
        have ej:IntKind.i64.wrap ((j:Int)+1)=(j:Int)+1:=wrapI _ (by omega) (by omega)
        have HLL:Hid (sigOk (F+k) x=decide (0≤x∧x<F+k)):=rfl
        have HXF:Hid (sigOk (F+k) x=false→r=false):=fun hf=>HFK.out (by rw [HOK.out];exact List.all_eq_false.2 ⟨_,List.mem_of_getElem? HD.out,by rw [hf];decide⟩)
        have HXT:Hid (sigOk (F+k) x=true→(ins.take (j+1)).all (sigOk (F+k))=true):=fun ht=>by rw [all_next _ _ j _ HD.out,HJ.out,ht];rfl
        clear hd hcx hlb' ea' HJ
        by_cases a0:x<0
        ·have HF:Hid (r=false):=HXF.out (by rw [HLL.out,decide_eq_false (by omega)])
         have HBE:=HB5
         clear HR
         go_wp2
         go_ret
         exact ⟨ret_bool HF.out.symm,HB1.out.trans (HBE.out.mono hwW)⟩
        ·by_cases a1:x<F+(k:Int)
         ·have HN1:=hidden (HXT.out (by rw [HLL.out,decide_eq_true (by omega)]))
          go_wp2
          go_roundw
          case measure=>simp [intOf];omega
          case rel=>exact ⟨j+1,by omega,by simp,HN1.out,HW5.out⟩
         ·have HF:Hid (r=false):=HXF.out (by rw [HLL.out,decide_eq_false (by omega)])
          have HBE:=HB5
          clear HR
          go_wp2
          go_ret
          exact ⟨ret_bool HF.out.symm,HB1.out.trans (HBE.out.mono hwW)⟩
       ·have hjI:¬ ((j:Int)<(m:Int)):=by omega
        have HN1:Hid ((List.range (k+1)).all (tabOk N)=true):=by
         show _=_
         have:=HJ.out
         rw [List.take_of_length_le (by have:=HM.out;omega)] at this
         rw [range_next,HA.out,HOK.out,this];rfl
        clear HJ
        go_wp2
        go_roundw
        case measure=>simp [intOf];omega
        case rel=>exact ⟨k+1,by omega,by simp,HN1.out,HB5.out⟩
   ·have h4I:4<(m:Int):=by omega
    have HF:Hid (r=false):=HFK.out (by rw [HOK.out,decide_eq_false h4];rfl)
    have HBE:=hidden ((HBE.out).alloc HBE.out.size (.cells #[.slice da m dc,.int .i64 bits] 53))
    clear HR
    go_wp2
    go_ret
    exact ⟨ret_bool HF.out.symm,HB1.out.trans (HBE.out.mono hwW)⟩
  ·have hge:¬ ((k:Int)<(N.tabs.length:Int)):=by omega
   have HA':Hid ((List.range N.tabs.length).all (tabOk N)=true):=by
    have:=HA.out
    rwa [show k=N.tabs.length by omega] at this
   clear HA
   have HQa:=HBE
   clear HBE
   go_wp2_with fail
   clear q2
   go_loopw [7] (fun i' w'=>∃ (k:Nat),k≤N.next.length∧i' = .int .i64 k∧Hid ((N.next.take k).all (sigOk n)=true)∧Hid (Below W.heap.size W w')) (fun i' _=>N.next.length - (intOf i').toNat)
   case atStart=>exact ⟨0,Nat.zero_le _,rfl,rfl,HQa.out⟩
   case round =>
    clear HQa
    obtain ⟨k,hk,rfl,HL,HQ1⟩:=hrel
    have q1:wr.cell? ⟨pg,3,none⟩=some (.slice S.a3 N.next.length S.c3):=(HX.out.to HX.out.lt HQ1.out).c3
    by_cases hlt:k<N.next.length
    ·obtain ⟨x,hd⟩:=getElem_lt hlt
     obtain ⟨b,o,ea,hlb,hc0⟩:=HAW.out.n.int hd
     have HD:=hidden hd
     have hbW:b<W.heap.size:=Nat.lt_of_lt_of_le hlb hBW
     have hltI:(k:Int)<(N.next.length:Int):=by omega
     rw [ea] at q1
     have e2:IntKind.i64.wrap ((k:Int)+1)=(k:Int)+1:=wrapI _ (by omega) (by omega)
     have HLL:Hid (sigOk n x=decide (0≤x∧x<n)):=rfl
     have K1:Hid (∀ w',Below W.heap.size W w'→(fun w'=>w'.cell? ⟨b,o+k,none⟩=some (.int .i64 x)∧w'.cell? ⟨pg,0,none⟩=some (.int .i64 N.ins)∧w'.cell? ⟨pg,1,none⟩=some (.slice S.a1 N.init.length S.c1)∧w'.cell? ⟨pg,2,none⟩=some (.slice S.a2 N.tabs.length S.c2)∧w'.cell? ⟨pg,3,none⟩=some (.slice (some ⟨b,o,none⟩) N.next.length S.c3)∧w'.cell? ⟨pg,4,none⟩=some (.slice S.a4 N.outs.length S.c4)) w'):=fun w' hb=>by
      have hx:=HX.out.to HX.out.lt hb
      exact ⟨(hb.cell (p:=⟨b,o+k,none⟩) hbW).trans hc0,hx.c0,hx.c1,hx.c2,by rw [←ea];exact hx.c3,hx.c4⟩
     have SAk:Hid (∀ w,Calls Try.prog 22 #[.agg #[.int .i64 N.ins,.slice S.a1 N.init.length S.c1,.slice S.a2 N.tabs.length S.c2,.slice (some ⟨b,o,none⟩) N.next.length S.c3,.slice S.a4 N.outs.length S.c4]] w fun e w'=>e = .returned (.int .i64 n)∧Below w.heap.size w w'):=by rw [←ea];exact SA.out
     have HFF:Hid (sigOk n x=false→r=false):=fun hf=>by
      rw [HR.out,show N.next.all (sigOk n)=false from List.all_eq_false.2 ⟨_,List.mem_of_getElem? HD.out,by rw [hf];decide⟩,Bool.and_false];rfl
     have HTT:Hid (sigOk n x=true→(N.next.take (k+1)).all (sigOk n)=true):=fun ht=>by
      rw [all_next _ _ k _ HD.out,HL.out,ht];rfl
     clear hd hc0 ea hlb
     go_upto_region 18 with fail
     clear q1
     by_cases a0:x<0
     ·have hzd:decide (x<0)=true:=decide_eq_true a0
      have HF:Hid (r=false):=HFF.out (by rw [HLL.out,decide_eq_false (by omega)])
      have HBE:Hid (Below w.heap.size w wr.drew):=HB1.out.trans ((Below.drew HQ1.out).mono hwW)
      refine wp_region_noPanic ?_
      refine wp_region_held_drew (S:=(fun w'=>w'.cell? ⟨b,o+k,none⟩=some (.int .i64 x)∧w'.cell? ⟨pg,0,none⟩=some (.int .i64 N.ins)∧w'.cell? ⟨pg,1,none⟩=some (.slice S.a1 N.init.length S.c1)∧w'.cell? ⟨pg,2,none⟩=some (.slice S.a2 N.tabs.length S.c2)∧w'.cell? ⟨pg,3,none⟩=some (.slice (some ⟨b,o,none⟩) N.next.length S.c3)∧w'.cell? ⟨pg,4,none⟩=some (.slice S.a4 N.outs.length S.c4))) (by kernel_rfl) (by first | assumption | exact K1.out _ HQ1.out | exact K1.out _ (Below.drew HQ1.out) | exact K1.out _ (by assumption)) (fun hHeld=>?_)
      refine tk 0 ?_
      refine tk 1 ?_
      refine tk 2 ?_
      refine tk 3 ?_
      refine tk 4 ?_
      refine tk 5 ?_
      refine tk 6 ?_
      refine wpAnyH_take (i:=7) (oi:=_) (v:=undef) rfl (by kernel_rfl) (by kernel_rfl) (by kernel_rfl) (fun _ _ _ h=>h) (Or.inr ⟨by rfl,rfl⟩) (by assumption) ?_
      try simp only [Act.put,List.getElem_toArray,List.getElem_cons_zero,List.getElem_cons_succ,List.setIfInBounds_toArray,List.set_cons_zero,List.set_cons_succ]
      refine wpAnyH_take (i:=8) (oi:=_) (v:=undef) rfl (by kernel_rfl) (by kernel_rfl) (by kernel_rfl) (fun _ _ _ h=>h) (Or.inr ⟨by rfl,rfl⟩) (by assumption) ?_
      try simp only [Act.put,List.getElem_toArray,List.getElem_cons_zero,List.getElem_cons_succ,List.setIfInBounds_toArray,List.set_cons_zero,List.set_cons_succ]
      refine wpAnyH_take (i:=9) (oi:=_) (v:=undef) rfl (by kernel_rfl) (by kernel_rfl) (by kernel_rfl) (fun _ _ _ h=>h) (Or.inr ⟨by rfl,rfl⟩) (by assumption) ?_
      try simp only [Act.put,List.getElem_toArray,List.getElem_cons_zero,List.getElem_cons_succ,List.setIfInBounds_toArray,List.set_cons_zero,List.set_cons_succ]
      refine wpAnyH_take (i:=10) (oi:=_) (v:=undef) rfl (by kernel_rfl) (by kernel_rfl) (by kernel_rfl) (fun _ _ _ h=>h) (Or.inr ⟨by rfl,rfl⟩) (by assumption) ?_
      try simp only [Act.put,List.getElem_toArray,List.getElem_cons_zero,List.getElem_cons_succ,List.setIfInBounds_toArray,List.set_cons_zero,List.set_cons_succ]
      refine wpAnyH_take (i:=11) (oi:=_) (v:=undef) rfl (by kernel_rfl) (by kernel_rfl) (by kernel_rfl) (fun _ _ _ h=>h) (Or.inr ⟨by rfl,rfl⟩) (by assumption) ?_
      try simp only [Act.put,List.getElem_toArray,List.getElem_cons_zero,List.getElem_cons_succ,List.setIfInBounds_toArray,List.set_cons_zero,List.set_cons_succ]
      refine wpAnyH_take (i:=12) (oi:=_) (v:=undef) rfl (by kernel_rfl) (by kernel_rfl) (by kernel_rfl) (fun _ _ _ h=>h) (Or.inr ⟨by rfl,rfl⟩) (by assumption) ?_
      try simp only [Act.put,List.getElem_toArray,List.getElem_cons_zero,List.getElem_cons_succ,List.setIfInBounds_toArray,List.set_cons_zero,List.set_cons_succ]
      refine wpAnyH_take (i:=13) (oi:=_) (v:=undef) rfl (by kernel_rfl) (by kernel_rfl) (by kernel_rfl) (fun _ _ _ h=>h) (Or.inr ⟨by rfl,rfl⟩) (by assumption) ?_
      try simp only [Act.put,List.getElem_toArray,List.getElem_cons_zero,List.getElem_cons_succ,List.setIfInBounds_toArray,List.set_cons_zero,List.set_cons_succ]
      refine wpAnyH_take (i:=14) (oi:=_) (v:=undef) rfl (by kernel_rfl) (by kernel_rfl) (by kernel_rfl) (fun _ _ _ h=>h) (Or.inr ⟨by rfl,rfl⟩) (by assumption) ?_
      try simp only [Act.put,List.getElem_toArray,List.getElem_cons_zero,List.getElem_cons_succ,List.setIfInBounds_toArray,List.set_cons_zero,List.set_cons_succ]
      refine tk 15 ?_
      refine wpAnyH_done (by kernel_rfl) ?_ _
      refine NoPanic.normal ?_
      go_wp2
      go_ret
      exact ⟨ret_bool HF.out.symm,HBE.out⟩
     ·have hzd:decide (x<0)=false:=decide_eq_false a0
      by_cases a1:n≤x
      ·have hzd1:decide (n≤x)=true:=decide_eq_true a1
       have HF:Hid (r=false):=HFF.out (by rw [HLL.out,decide_eq_false (by omega)])
       refine wp_region_noPanic ?_
       refine wp_region_held_drew (S:=(fun w'=>w'.cell? ⟨b,o+k,none⟩=some (.int .i64 x)∧w'.cell? ⟨pg,0,none⟩=some (.int .i64 N.ins)∧w'.cell? ⟨pg,1,none⟩=some (.slice S.a1 N.init.length S.c1)∧w'.cell? ⟨pg,2,none⟩=some (.slice S.a2 N.tabs.length S.c2)∧w'.cell? ⟨pg,3,none⟩=some (.slice (some ⟨b,o,none⟩) N.next.length S.c3)∧w'.cell? ⟨pg,4,none⟩=some (.slice S.a4 N.outs.length S.c4))) (by kernel_rfl) (by first | assumption | exact K1.out _ HQ1.out | exact K1.out _ (Below.drew HQ1.out) | exact K1.out _ (by assumption)) (fun hHeld=>?_)
       refine tk 0 ?_
       refine tk 1 ?_
       refine tk 2 ?_
       refine tk 3 ?_
       refine tk 4 ?_
       refine tk 5 ?_
       refine tk 6 ?_
       refine tk 7 ?_
       refine tk 8 ?_
       refine tk 9 ?_
       refine tk 10 ?_
       refine tk 11 ?_
       refine tk 12 ?_
       refine rd 13 fun K hK=>?_
       (try simp only [gA,gB,gC])
       go_simp
       go_at_call 22
       refine (SAk.out _).mono ?_
       rintro e v1 ⟨rfl,hbv1⟩
       have hb1:Below W.heap.size W v1:=(Below.drew HQ1.out).trans (hbv1.mono (Below.drew HQ1.out).size)
       clear hbv1
       go_wp2_with fail
       refine hK.out _ _ (by first | assumption | exact K1.out _ HQ1.out | exact K1.out _ (Below.drew HQ1.out) | exact K1.out _ (by assumption)) (fun hHeld1=>?_)
       clear hK K
       try simp only [Act.put,List.setIfInBounds_toArray,List.set_cons_zero,List.set_cons_succ]
       refine tk 14 ?_
       refine tk 15 ?_
       refine wpAnyH_done (by kernel_rfl) ?_ _
       refine NoPanic.normal ?_
       have HBE:Hid (Below w.heap.size w v1):=HB1.out.trans (hb1.mono hwW)
       go_wp2
       go_ret
       exact ⟨ret_bool HF.out.symm,HBE.out⟩
      ·have hzd1:decide (n≤x)=false:=decide_eq_false a1
       have HN1:=hidden (HTT.out (by rw [HLL.out,decide_eq_true (by omega)]))
       refine wp_region_noPanic ?_
       refine wp_region_held_drew (S:=(fun w'=>w'.cell? ⟨b,o+k,none⟩=some (.int .i64 x)∧w'.cell? ⟨pg,0,none⟩=some (.int .i64 N.ins)∧w'.cell? ⟨pg,1,none⟩=some (.slice S.a1 N.init.length S.c1)∧w'.cell? ⟨pg,2,none⟩=some (.slice S.a2 N.tabs.length S.c2)∧w'.cell? ⟨pg,3,none⟩=some (.slice (some ⟨b,o,none⟩) N.next.length S.c3)∧w'.cell? ⟨pg,4,none⟩=some (.slice S.a4 N.outs.length S.c4))) (by kernel_rfl) (by first | assumption | exact K1.out _ HQ1.out | exact K1.out _ (Below.drew HQ1.out) | exact K1.out _ (by assumption)) (fun hHeld=>?_)
       refine tk 0 ?_
       refine tk 1 ?_
       refine tk 2 ?_
       refine tk 3 ?_
       refine tk 4 ?_
       refine tk 5 ?_
       refine tk 6 ?_
       refine tk 7 ?_
       refine tk 8 ?_
       refine tk 9 ?_
       refine tk 10 ?_
       refine tk 11 ?_
       refine tk 12 ?_
       refine rd 13 fun K hK=>?_
       (try simp only [gA,gB,gC])
       go_simp
       go_at_call 22
       refine (SAk.out _).mono ?_
       rintro e v1 ⟨rfl,hbv1⟩
       have hb1:Below W.heap.size W v1:=(Below.drew HQ1.out).trans (hbv1.mono (Below.drew HQ1.out).size)
       clear hbv1
       go_wp2_with fail
       refine hK.out _ _ (by first | assumption | exact K1.out _ HQ1.out | exact K1.out _ (Below.drew HQ1.out) | exact K1.out _ (by assumption)) (fun hHeld1=>?_)
       clear hK K
       try simp only [Act.put,List.setIfInBounds_toArray,List.set_cons_zero,List.set_cons_succ]
       refine tk 14 ?_
       refine tk 15 ?_
       refine wpAnyH_done (by kernel_rfl) ?_ _
       refine NoPanic.normal ?_
       go_wp2
       go_roundw
       case measure=>simp [intOf];omega
       case rel=>exact ⟨k+1,by omega,by simp,HN1.out,hb1⟩
    ·have hge:¬ ((k:Int)<(N.next.length:Int)):=by omega
     have HL3:Hid (N.next.all (sigOk n)=true):=by
      have:=HL.out
      rwa [List.take_of_length_le (by omega)] at this
     clear HL
     have HQa:=HQ1
     clear HQ1
     go_wp2_with fail
     clear q1
     go_loopw [8] (fun i' w'=>∃ (k:Nat),k≤N.outs.length∧i' = .int .i64 k∧Hid ((N.outs.take k).all (sigOk n)=true)∧Hid (Below W.heap.size W w')) (fun i' _=>N.outs.length - (intOf i').toNat)
     case atStart=>exact ⟨0,Nat.zero_le _,rfl,rfl,HQa.out⟩
     case round =>
      clear HQa
      obtain ⟨k,hk,rfl,HL,HQ1⟩:=hrel
      have q1:wr.cell? ⟨pg,4,none⟩=some (.slice S.a4 N.outs.length S.c4):=(HX.out.to HX.out.lt HQ1.out).c4
      by_cases hlt:k<N.outs.length
      ·obtain ⟨x,hd⟩:=getElem_lt hlt
       obtain ⟨b,o,ea,hlb,hc0⟩:=HAW.out.o.int hd
       have HD:=hidden hd
       have hbW:b<W.heap.size:=Nat.lt_of_lt_of_le hlb hBW
       have hltI:(k:Int)<(N.outs.length:Int):=by omega
       rw [ea] at q1
       have e2:IntKind.i64.wrap ((k:Int)+1)=(k:Int)+1:=wrapI _ (by omega) (by omega)
       have HLL:Hid (sigOk n x=decide (0≤x∧x<n)):=rfl
       have K1:Hid (∀ w',Below W.heap.size W w'→(fun w'=>w'.cell? ⟨b,o+k,none⟩=some (.int .i64 x)∧w'.cell? ⟨pg,0,none⟩=some (.int .i64 N.ins)∧w'.cell? ⟨pg,1,none⟩=some (.slice S.a1 N.init.length S.c1)∧w'.cell? ⟨pg,2,none⟩=some (.slice S.a2 N.tabs.length S.c2)∧w'.cell? ⟨pg,3,none⟩=some (.slice S.a3 N.next.length S.c3)∧w'.cell? ⟨pg,4,none⟩=some (.slice (some ⟨b,o,none⟩) N.outs.length S.c4)) w'):=fun w' hb=>by
        have hx:=HX.out.to HX.out.lt hb
        exact ⟨(hb.cell (p:=⟨b,o+k,none⟩) hbW).trans hc0,hx.c0,hx.c1,hx.c2,hx.c3,by rw [←ea];exact hx.c4⟩
       have SAk:Hid (∀ w,Calls Try.prog 22 #[.agg #[.int .i64 N.ins,.slice S.a1 N.init.length S.c1,.slice S.a2 N.tabs.length S.c2,.slice S.a3 N.next.length S.c3,.slice (some ⟨b,o,none⟩) N.outs.length S.c4]] w fun e w'=>e = .returned (.int .i64 n)∧Below w.heap.size w w'):=by rw [←ea];exact SA.out
       have HFF:Hid (sigOk n x=false→r=false):=fun hf=>by
        rw [HR.out,show N.outs.all (sigOk n)=false from List.all_eq_false.2 ⟨_,List.mem_of_getElem? HD.out,by rw [hf];decide⟩,Bool.and_false]
       have HTT:Hid (sigOk n x=true→(N.outs.take (k+1)).all (sigOk n)=true):=fun ht=>by
        rw [all_next _ _ k _ HD.out,HL.out,ht];rfl
       clear hd hc0 ea hlb
       go_upto_region 23 with fail
       clear q1
       by_cases a0:x<0
       ·have hzd:decide (x<0)=true:=decide_eq_true a0
        have HF:Hid (r=false):=HFF.out (by rw [HLL.out,decide_eq_false (by omega)])
        have HBE:Hid (Below w.heap.size w wr.drew):=HB1.out.trans ((Below.drew HQ1.out).mono hwW)
        refine wp_region_noPanic ?_
        refine wp_region_held_drew (S:=(fun w'=>w'.cell? ⟨b,o+k,none⟩=some (.int .i64 x)∧w'.cell? ⟨pg,0,none⟩=some (.int .i64 N.ins)∧w'.cell? ⟨pg,1,none⟩=some (.slice S.a1 N.init.length S.c1)∧w'.cell? ⟨pg,2,none⟩=some (.slice S.a2 N.tabs.length S.c2)∧w'.cell? ⟨pg,3,none⟩=some (.slice S.a3 N.next.length S.c3)∧w'.cell? ⟨pg,4,none⟩=some (.slice (some ⟨b,o,none⟩) N.outs.length S.c4))) (by kernel_rfl) (by first | assumption | exact K1.out _ HQ1.out | exact K1.out _ (Below.drew HQ1.out) | exact K1.out _ (by assumption)) (fun hHeld=>?_)
        refine tk 0 ?_
        refine tk 1 ?_
        refine tk 2 ?_
        refine tk 3 ?_
        refine tk 4 ?_
        refine tk 5 ?_
        refine tk 6 ?_
        refine wpAnyH_take (i:=7) (oi:=_) (v:=undef) rfl (by kernel_rfl) (by kernel_rfl) (by kernel_rfl) (fun _ _ _ h=>h) (Or.inr ⟨by rfl,rfl⟩) (by assumption) ?_
        try simp only [Act.put,List.getElem_toArray,List.getElem_cons_zero,List.getElem_cons_succ,List.setIfInBounds_toArray,List.set_cons_zero,List.set_cons_succ]
        refine wpAnyH_take (i:=8) (oi:=_) (v:=undef) rfl (by kernel_rfl) (by kernel_rfl) (by kernel_rfl) (fun _ _ _ h=>h) (Or.inr ⟨by rfl,rfl⟩) (by assumption) ?_
        try simp only [Act.put,List.getElem_toArray,List.getElem_cons_zero,List.getElem_cons_succ,List.setIfInBounds_toArray,List.set_cons_zero,List.set_cons_succ]
        refine wpAnyH_take (i:=9) (oi:=_) (v:=undef) rfl (by kernel_rfl) (by kernel_rfl) (by kernel_rfl) (fun _ _ _ h=>h) (Or.inr ⟨by rfl,rfl⟩) (by assumption) ?_
        try simp only [Act.put,List.getElem_toArray,List.getElem_cons_zero,List.getElem_cons_succ,List.setIfInBounds_toArray,List.set_cons_zero,List.set_cons_succ]
        refine wpAnyH_take (i:=10) (oi:=_) (v:=undef) rfl (by kernel_rfl) (by kernel_rfl) (by kernel_rfl) (fun _ _ _ h=>h) (Or.inr ⟨by rfl,rfl⟩) (by assumption) ?_
        try simp only [Act.put,List.getElem_toArray,List.getElem_cons_zero,List.getElem_cons_succ,List.setIfInBounds_toArray,List.set_cons_zero,List.set_cons_succ]
        refine wpAnyH_take (i:=11) (oi:=_) (v:=undef) rfl (by kernel_rfl) (by kernel_rfl) (by kernel_rfl) (fun _ _ _ h=>h) (Or.inr ⟨by rfl,rfl⟩) (by assumption) ?_
        try simp only [Act.put,List.getElem_toArray,List.getElem_cons_zero,List.getElem_cons_succ,List.setIfInBounds_toArray,List.set_cons_zero,List.set_cons_succ]
        refine wpAnyH_take (i:=12) (oi:=_) (v:=undef) rfl (by kernel_rfl) (by kernel_rfl) (by kernel_rfl) (fun _ _ _ h=>h) (Or.inr ⟨by rfl,rfl⟩) (by assumption) ?_
        try simp only [Act.put,List.getElem_toArray,List.getElem_cons_zero,List.getElem_cons_succ,List.setIfInBounds_toArray,List.set_cons_zero,List.set_cons_succ]
        refine wpAnyH_take (i:=13) (oi:=_) (v:=undef) rfl (by kernel_rfl) (by kernel_rfl) (by kernel_rfl) (fun _ _ _ h=>h) (Or.inr ⟨by rfl,rfl⟩) (by assumption) ?_
        try simp only [Act.put,List.getElem_toArray,List.getElem_cons_zero,List.getElem_cons_succ,List.setIfInBounds_toArray,List.set_cons_zero,List.set_cons_succ]
        refine wpAnyH_take (i:=14) (oi:=_) (v:=undef) rfl (by kernel_rfl) (by kernel_rfl) (by kernel_rfl) (fun _ _ _ h=>h) (Or.inr ⟨by rfl,rfl⟩) (by assumption) ?_
        try simp only [Act.put,List.getElem_toArray,List.getElem_cons_zero,List.getElem_cons_succ,List.setIfInBounds_toArray,List.set_cons_zero,List.set_cons_succ]
        refine tk 15 ?_
        refine wpAnyH_done (by kernel_rfl) ?_ _
        refine NoPanic.normal ?_
        go_wp2
        go_ret
        exact ⟨ret_bool HF.out.symm,HBE.out⟩
       ·have hzd:decide (x<0)=false:=decide_eq_false a0
        by_cases a1:n≤x
        ·have hzd1:decide (n≤x)=true:=decide_eq_true a1
         have HF:Hid (r=false):=HFF.out (by rw [HLL.out,decide_eq_false (by omega)])
         refine wp_region_noPanic ?_
         refine wp_region_held_drew (S:=(fun w'=>w'.cell? ⟨b,o+k,none⟩=some (.int .i64 x)∧w'.cell? ⟨pg,0,none⟩=some (.int .i64 N.ins)∧w'.cell? ⟨pg,1,none⟩=some (.slice S.a1 N.init.length S.c1)∧w'.cell? ⟨pg,2,none⟩=some (.slice S.a2 N.tabs.length S.c2)∧w'.cell? ⟨pg,3,none⟩=some (.slice S.a3 N.next.length S.c3)∧w'.cell? ⟨pg,4,none⟩=some (.slice (some ⟨b,o,none⟩) N.outs.length S.c4))) (by kernel_rfl) (by first | assumption | exact K1.out _ HQ1.out | exact K1.out _ (Below.drew HQ1.out) | exact K1.out _ (by assumption)) (fun hHeld=>?_)
         refine tk 0 ?_
         refine tk 1 ?_
         refine tk 2 ?_
         refine tk 3 ?_
         refine tk 4 ?_
         refine tk 5 ?_
         refine tk 6 ?_
         refine tk 7 ?_
         refine tk 8 ?_
         refine tk 9 ?_
         refine tk 10 ?_
         refine tk 11 ?_
         refine tk 12 ?_
         refine rd 13 fun K hK=>?_
         (try simp only [gA,gB,gC])
         go_simp
         go_at_call 22
         refine (SAk.out _).mono ?_
         rintro e v1 ⟨rfl,hbv1⟩
         have hb1:Below W.heap.size W v1:=(Below.drew HQ1.out).trans (hbv1.mono (Below.drew HQ1.out).size)
         clear hbv1
         go_wp2_with fail
         refine hK.out _ _ (by first | assumption | exact K1.out _ HQ1.out | exact K1.out _ (Below.drew HQ1.out) | exact K1.out _ (by assumption)) (fun hHeld1=>?_)
         clear hK K
         try simp only [Act.put,List.setIfInBounds_toArray,List.set_cons_zero,List.set_cons_succ]
         refine tk 14 ?_
         refine tk 15 ?_
         refine wpAnyH_done (by kernel_rfl) ?_ _
         refine NoPanic.normal ?_
         have HBE:Hid (Below w.heap.size w v1):=HB1.out.trans (hb1.mono hwW)
         go_wp2
         go_ret
         exact ⟨ret_bool HF.out.symm,HBE.out⟩
        ·have hzd1:decide (n≤x)=false:=decide_eq_false a1
         have HN1:=hidden (HTT.out (by rw [HLL.out,decide_eq_true (by omega)]))
         refine wp_region_noPanic ?_
         refine wp_region_held_drew (S:=(fun w'=>w'.cell? ⟨b,o+k,none⟩=some (.int .i64 x)∧w'.cell? ⟨pg,0,none⟩=some (.int .i64 N.ins)∧w'.cell? ⟨pg,1,none⟩=some (.slice S.a1 N.init.length S.c1)∧w'.cell? ⟨pg,2,none⟩=some (.slice S.a2 N.tabs.length S.c2)∧w'.cell? ⟨pg,3,none⟩=some (.slice S.a3 N.next.length S.c3)∧w'.cell? ⟨pg,4,none⟩=some (.slice (some ⟨b,o,none⟩) N.outs.length S.c4))) (by kernel_rfl) (by first | assumption | exact K1.out _ HQ1.out | exact K1.out _ (Below.drew HQ1.out) | exact K1.out _ (by assumption)) (fun hHeld=>?_)
         refine tk 0 ?_
         refine tk 1 ?_
         refine tk 2 ?_
         refine tk 3 ?_
         refine tk 4 ?_
         refine tk 5 ?_
         refine tk 6 ?_
         refine tk 7 ?_
         refine tk 8 ?_
         refine tk 9 ?_
         refine tk 10 ?_
         refine tk 11 ?_
         refine tk 12 ?_
         refine rd 13 fun K hK=>?_
         (try simp only [gA,gB,gC])
         go_simp
         go_at_call 22
         refine (SAk.out _).mono ?_
         rintro e v1 ⟨rfl,hbv1⟩
         have hb1:Below W.heap.size W v1:=(Below.drew HQ1.out).trans (hbv1.mono (Below.drew HQ1.out).size)
         clear hbv1
         go_wp2_with fail
         refine hK.out _ _ (by first | assumption | exact K1.out _ HQ1.out | exact K1.out _ (Below.drew HQ1.out) | exact K1.out _ (by assumption)) (fun hHeld1=>?_)
         clear hK K
         try simp only [Act.put,List.setIfInBounds_toArray,List.set_cons_zero,List.set_cons_succ]
         refine tk 14 ?_
         refine tk 15 ?_
         refine wpAnyH_done (by kernel_rfl) ?_ _
         refine NoPanic.normal ?_
         go_wp2
         go_roundw
         case measure=>simp [intOf];omega
         case rel=>exact ⟨k+1,by omega,by simp,HN1.out,hb1⟩
      ·have hge:¬ ((k:Int)<(N.outs.length:Int)):=by omega
       have HL4:Hid (N.outs.all (sigOk n)=true):=by
        have:=HL.out
        rwa [List.take_of_length_le (by omega)] at this
       clear HL
       have HF:Hid (r=true):=by show _=_;rw [HR.out,HA'.out,HL3.out,HL4.out];rfl
       clear HR
       go_wp2
       go_ret
       exact ⟨ret_bool HF.out.symm,HB1.out.trans (HQ1.out.mono hwW)⟩
theorem tablesValid_any (B:Nat) (w:World) (S:NtS) (N:NtD) (h:NtAt B w S N) (hB:B≤w.heap.size) :
  Calls Try.prog 8 #[.agg (S.cells N)] w fun e w'=>e = .returned (.bool (NtOk N))∧Below w.heap.size w w':=by
 by_cases hs:N.small
 ·refine tablesValid_rest B w S N h hB hs _ ?_
  show _=_
  unfold NtOk;rw [decide_eq_true hs,Bool.true_and]
 ·have e:NtOk N=false:=by unfold NtOk;rw [decide_eq_false hs];rfl
  rw [e];exact tablesValid_small w S N hs
end Go.Proofs.Ytlaljeobdddegaa.L
