import Derived.Test.YtlaljeobdddegaaJ36
namespace Go.Proofs.Ytlaljeobdddegaa
open Go.RowKit Mp
set_option maxRecDepth 100000 in
set_option maxHeartbeats 8000000 in
theorem cutsOf_any (w:World) (S:FnS) (Cs:List (List Ct)) (h:FinR w S Cs) (hl:FnLow w.heap.size S) (hf:FinF Cs) (x y:Int) (p q:Nat) (hx0:0≤x) (hy0:0≤y) (hx:x / 2=(p:Int)) (hy:y / 2=(q:Int)) (hp:p<Cs.length) (hq:q<Cs.length) :
  Calls Try.prog 57 #[.pointer (some ⟨S.fb,0,none⟩),.agg #[.int .i64 x,.int .i64 y]] w fun e w'=>∃ v,e = .returned v∧Hid (w'.ownsRow w.heap.size 114 8 v (cutsT (KOf Cs) (decide (x % 2=1)) (decide (y % 2=1)) (Cs.getD p []) (Cs.getD q [])).length (flC (cutsT (KOf Cs) (decide (x % 2=1)) (decide (y % 2=1)) (Cs.getD p []) (Cs.getD q []))))∧Hid (Bl w w'):=by
 have HFR:Hid (∀ v,Bl w v→FinR v S Cs):=fun v hv=>h.low hl hv
 have HFF:=hidden hf
 have HAT:Hid (∀ (v:World) (u:Nat),Bl w v→u<Cs.length→Calls Try.prog 58 #[.pointer (some ⟨S.fb,0,none⟩),.int .i64 (u:Nat)] v fun e w'=>e = .returned (.slice (some ⟨S.ab,stO Cs u*8,none⟩) (Cs.getD u []).length (Cs.getD u []).length)∧Bl v w'):=fun v u hv hu=>finAt_any v S Cs (HFR.out v hv) u hu (HFF.out.has u hu)
 have HP:=hidden (HAT.out · p · hp)
 have HQ:=hidden (HAT.out · q · hq)
 have HL1:Hid ((Cs.getD p []).length≤257∧(Cs.getD q []).length≤257):=⟨hf.few p hp,hf.few q hq⟩
 have HEA:Hid (∀ v,Bl w v→(∀ (k:Nat) (c:Ct),(Cs.getD p [])[k]?=some c→CtAt v S.ab (stO Cs p*8+k*8) c∧Ris c.lv∧LvIn Cs.length c∧c.tb<65536)∧(∀ (k:Nat) (c:Ct),(Cs.getD q [])[k]?=some c→CtAt v S.ab (stO Cs q*8+k*8) c∧Ris c.lv∧LvIn Cs.length c∧c.tb<65536)):=fun v hv=>⟨fun k c hc=>⟨((HFR.out v hv).at hp hc).1,hf.each p hp c (List.mem_of_getElem? hc)⟩,fun k c hc=>⟨((HFR.out v hv).at hq hc).1,hf.each q hq c (List.mem_of_getElem? hc)⟩⟩
 have HBT:Hid (∀ (v:World) (bb:Nat) (c:Ct) (ka:Option Addr) (kc:Nat) (ks:List Ct),Bl w v→CtAt v bb 0 c→LvIn Cs.length c→CtsR v ka ks→(∀ k,k ∈ ks→LvIn Cs.length k)→ks.length≤70000→Calls Try.prog 71 #[.pointer (some ⟨S.fb,0,none⟩),.pointer (some ⟨bb,0,none⟩),.slice ka ks.length kc] v fun e w'=>e = .returned (.bool (ks.any fun k=>beatsB (KOf Cs) k.lv c.lv))∧Bl v w'):=fun v bb c ka kc ks hv hc lc hk lk hn=>beaten_any v S Cs (HFR.out v hv) HFF.out.has bb 0 c hc lc ka kc ks hk lk (by omega)
 have HUB:Hid (∀ (C:Nat) (v:World) (bb:Nat) (c:Ct) (kv:Value) (ks:List Ct),w.heap.size≤C→C≤v.heap.size→Bl w v→CtAt v bb 0 c→LvIn Cs.length c→v.ownsRow C 114 8 kv ks.length (flC ks)→some bb≠kv.ownBlock→(∀ k,k ∈ ks→LvIn Cs.length k)→ks.length≤70000→Calls Try.prog 73 #[.pointer (some ⟨S.fb,0,none⟩),kv,.pointer (some ⟨bb,0,none⟩)] v fun e w'=>∃ v':Value,e = .returned v'∧Hid (w'.ownsRow C 114 8 v' (ks.filter fun k=>!beatsB (KOf Cs) c.lv k.lv).length (flC (ks.filter fun k=>!beatsB (KOf Cs) c.lv k.lv)))∧Hid (v.grownBy w' kv.ownBlock)∧Hid (v'.ownBlock=kv.ownBlock)):=fun C v bb c kv ks hC hCv hv hc lc ho hbk lk hn=>unbeaten_any C v S Cs (HFR.out v hv) ⟨Nat.lt_of_lt_of_le hl.f hC,Nat.lt_of_lt_of_le hl.a hC,Nat.lt_of_lt_of_le hl.e hC⟩ hCv HFF.out.has bb 0 c hc lc kv ks ho hbk lk (by omega)
 have hxq:x.tdiv 2=(p:Int):=by rw [Int.tdiv_eq_ediv_of_nonneg hx0];exact hx
 have hyq:y.tdiv 2=(q:Int):=by rw [Int.tdiv_eq_ediv_of_nonneg hy0];exact hy
 have hwp:IntKind.i64.wrap (p:Int)=(p:Int):=wrapI _ (by omega) (by have:=h.num;omega)
 have hwq:IntKind.i64.wrap (q:Int)=(q:Int):=wrapI _ (by omega) (by have:=h.num;omega)
 have HX0:=hidden hx0
 have HY0:=hidden hy0
 obtain ⟨bi,Hbi⟩:=exh (decide (x % 2=1))
 obtain ⟨bj,Hbj⟩:=exh (decide (y % 2=1))
 obtain ⟨X,EX⟩:=exh (Cs.getD p [])
 obtain ⟨Y,EY⟩:=exh (Cs.getD q [])
 rw [←EX.out] at HP HL1 HEA
 rw [←EY.out] at HQ HL1 HEA
 rw [←Hbi.out,←Hbj.out,←EX.out,←EY.out]
 obtain ⟨KK,EK⟩:=exh (KOf Cs)
 rw [←EK.out] at HBT HUB
 rw [←EK.out]
 obtain ⟨nX,EnX⟩:=exh X.length
 obtain ⟨nY,EnY⟩:=exh Y.length
 rw [←EnX.out] at HP HL1
 rw [←EnY.out] at HQ HL1
 obtain ⟨hnX,hnY⟩:=HL1.out
 obtain ⟨N,EN⟩:=exh Cs.length
 rw [←EN.out] at HEA HBT HUB
 generalize S.fb=fb at *
 generalize S.ab=ab at *
 generalize stO Cs p=sp at *
 generalize stO Cs q=sq at *
 clear h hl hf hp hq hx hy hx0 hy0 HL1 HAT HFR HFF
 go_enter Try.func57,Try.ntmps57
 go_upto_region 2 with fail
 have hbk:=Blk.new w 46 #[.int .i64 x,.int .i64 y]
 have HB0:Hid (Bl w (w.alloc (.cells #[.int .i64 x,.int .i64 y] 46))):=(Below.refl _ _).alloc (Nat.le_refl _) _
 obtain ⟨xb,Exb⟩:=exh w.heap.size
 have HXB:Hid (∀ v:World,Bl (w.alloc (.cells #[.int .i64 x,.int .i64 y] 46)) v→v.cell? ⟨xb,0,none⟩=some (.int .i64 x)∧v.cell? ⟨xb,1,none⟩=some (.int .i64 y)):=fun v hv=>by
  rw [Exb.out]
  exact ⟨(hbk.below hv).cell (i:=0) rfl,(hbk.below hv).cell (i:=1) rfl⟩
 rw [←Exb.out]
 clear hbk
 generalize w.alloc (.cells #[.int .i64 x,.int .i64 y] 46)=w0 at *
 obtain ⟨x0,x1⟩:=HXB.out w0 (Below.refl _ _)
 refine wp_region_noPanic ?_
 refine wp_region_held_drew (S:=fun wz=>wz.cell? ⟨xb,0,none⟩=some (.int .i64 x)∧wz.cell? ⟨xb,1,none⟩=some (.int .i64 y)) (by kernel_rfl) (by exact ⟨x0,x1⟩) (fun hHeld=>?_)
 refine tk 0 ?_
 refine tk 1 ?_
 refine tk 2 ?_
 refine tk 3 ?_
 refine tk 4 ?_
 refine tk 5 ?_
 refine tk 7 ?_
 refine tk 8 ?_
 refine tk 9 ?_
 refine tk 10 ?_
 refine tk 11 ?_
 refine tk 12 ?_
 refine rd 6 fun K hK=>?_
 (try simp only [gA,gB,gC]);go_simp
 go_at_call 58
 refine (HP.out w0.drew (Below.drew HB0.out)).mono ?_
 rintro e v1 ⟨rfl,hv1⟩
 have HV1:Hid (Bl w0 v1):=Bl.tr (Below.drew (Below.refl _ _)) hv1
 clear hv1
 go_wp2_with fail
 refine wo hK (HXB.out v1 HV1.out) fun hHeld2=>?_
 clear hK K
 refine rd 13 fun K hK=>?_
 (try simp only [gA,gB,gC]);go_simp
 go_at_call 58
 refine (HQ.out v1 (Bl.tr HB0.out HV1.out)).mono ?_
 rintro e v2 ⟨rfl,hv2⟩
 have HV2:Hid (Bl w0 v2):=Bl.tr HV1.out hv2
 clear hv2
 go_wp2_with fail
 refine wo hK (HXB.out v2 HV2.out) fun hHeld3=>?_
 clear hK K
 refine tk 14 ?_
 refine tk 15 ?_
 refine wpAnyH_done (by kernel_rfl) ?_ _
 refine NoPanic.normal ?_
 clear hHeld hHeld2 hHeld3 x0 x1 HV1 HP HQ hxq hyq hwp hwq
 have HW0:Hid (∀ v,Bl w0 v→Bl w v):=fun v hv=>Bl.tr HB0.out hv
 go_wp2_with fail
 go_loopw [5,8,9,10,11,28] (fun v' _ _ _ _ i' w'=>∃ (k:Nat) (ks:List Ct),k≤nX∧i' = .int .i64 (k:Int)∧Hid (ks=(X.take k).foldl (fun kept a=>rowT KK bi bj kept a Y) [])∧Hid (CoK w0 w' Cs v' ks)) (fun _ _ _ _ _ i' _=>nX - (intOf i').toNat)
 case atStart=>exact ⟨0,[],Nat.zero_le _,rfl,rfl,own_nil _ _ _ _,HV2.out,fun k hk=>(by cases hk),Nat.zero_le _⟩
 case round =>
  clear HV2
  obtain ⟨i,ks,hi,rfl,HKS,HCK⟩:=hrel
  by_cases hlt:i<nX
  ·have hltI:(i:Int)<(nX:Int):=by omega
   obtain ⟨a,ha⟩:=getElem_lt (show i<X.length by rw [←EnX.out];exact hlt)
   have HAI:=hidden ha
   have e2:IntKind.i64.wrap ((i:Int)+1)=(i:Int)+1:=wrapI _ (by omega) (by omega)
   have HNX:Hid ((X.take (i+1)).foldl (fun kept a=>rowT KK bi bj kept a Y) []=rowT KK bi bj ks a Y):=by
    show _=_
    rw [take_next _ _ _ ha,List.foldl_append,←HKS.out];rfl
   have HNM:Hid (ks.length≤i*257):=by
    show _≤_
    rw [HKS.out]
    have h1:=cutsT_len KK bi bj Y (X.take i) []
    rw [List.length_take,←EnX.out,←EnY.out,List.length_nil,Nat.zero_add,Nat.min_eq_left (by omega)] at h1
    exact Nat.le_trans h1 (Nat.mul_le_mul_left _ hnY)
   clear ha HKS
   go_wp2_with fail
   go_loopw [5,9,10,11,33] (fun v' _ _ _ j' w'=>∃ (k:Nat) (k2:List Ct),k≤nY∧j' = .int .i64 (k:Int)∧Hid (k2=rowT KK bi bj ks a (Y.take k))∧Hid (CoK w0 w' Cs v' k2)) (fun _ _ _ _ j' _=>nY - (intOf j').toNat)
   case atStart=>exact ⟨0,ks,Nat.zero_le _,rfl,rfl,HCK.out⟩
   case round =>
    clear HCK
    obtain ⟨j,k2,hj,rfl,HK2,HCK⟩:=hrel
    by_cases hltj:j<nY
    ·have hltJ:(j:Int)<(nY:Int):=by omega
     obtain ⟨b,hb⟩:=getElem_lt (show j<Y.length by rw [←EnY.out];exact hltj)
     have e3:IntKind.i64.wrap ((j:Int)+1)=(j:Int)+1:=wrapI _ (by omega) (by omega)
     have HNJ:Hid (rowT KK bi bj ks a (Y.take (j+1))=pairT KK bi bj k2 a b):=by
      show _=_
      rw [take_next _ _ _ hb]
      unfold rowT at *
      rw [List.foldl_append,HK2.out];rfl
     have HN2:Hid (k2.length+1≤70000):=by
      show _≤_
      have h1:=rowT_len KK bi bj a (Y.take j) ks
      rw [←HK2.out,List.length_take,←EnY.out,Nat.min_eq_left (by omega)] at h1
      have h2:=HNM.out
      have h3:i*257≤256*257:=Nat.mul_le_mul_right _ (by omega)
      omega
     have hEA:=HEA.out wr (HW0.out wr HCK.out.bw)
     have hAt:=hEA.1 i a HAI.out
     have hBt:=hEA.2 j b hb
     have HBJ:=hidden hb
     have HA:=hidden hAt
     have HB:=hidden hBt
     obtain ⟨c1,Ec1⟩:=exh (⟨joinL a.lv b.lv,max a.dep b.dep,a.tb⟩:Ct)
     have JN:Hid (∀ v:World,Bl wr v→Calls Try.prog 70 #[.pointer (some ⟨ab,sp*8+i*8,none⟩),.pointer (some ⟨ab,sq*8+j*8,none⟩)] v fun e w'=>Bl v w'∧(((joinL a.lv b.lv).length≤4∧e = .returned (.tuple #[.agg #[.int .i64 (lvN c1 0:Nat),.int .i64 (lvN c1 1:Nat),.int .i64 (lvN c1 2:Nat),.int .i64 (lvN c1 3:Nat),.int .i64 (c1.lv.length:Nat),.int .u64 (mkM c1.lv:Nat),.int .i64 (c1.dep:Nat),.int .u16 (c1.tb:Nat)],.bool true]))∨(¬ (joinL a.lv b.lv).length≤4∧e = .returned (.tuple #[.agg #[.int .i64 0,.int .i64 0,.int .i64 0,.int .i64 0,.int .i64 0,.int .u64 0,.int .i64 0,.int .u16 0],.bool false])))):=fun v hv=>by
      rw [Ec1.out]
      exact joined_any v ab (sp*8+i*8) ab (sq*8+j*8) a b (hAt.1.to hAt.1.lt hv) (hBt.1.to hBt.1.lt hv) hAt.2.2.1.1 hBt.2.2.1.1 hAt.2.1 hBt.2.1
     obtain ⟨ka,kc,hu5,hcr⟩:=own_rowC HCK.out.own
     subst hu5
     obtain ⟨nk,Enk⟩:=exh k2.length
     have HCR:=hidden hcr
     clear hcr
     clear hb HK2 hEA hAt hBt
     go_wp2_with fail
     refine wp_region_noPanic ?_
     refine wp_region_held_drew (S:=fun wz=>True) (by kernel_rfl) (by exact True.intro) (fun hHeld=>?_)
     refine tk 0 ?_
     refine tk 1 ?_
     refine tk 2 ?_
     refine tk 3 ?_
     refine tk 4 ?_
     refine tk 5 ?_
     refine wpAnyH_ready (rs:=[6,10]) (by kernel_rfl) (by simp) ?_
     refine AllReadyH.cons (o:=_) rfl (fun K hK=>?_) (AllReadyH.cons (o:=_) rfl (fun K hK=>?_) AllReadyH.nil)
     ·(try simp only [gA,gB,gC]);go_simp
      go_at_call 70
      refine (JN.out wr.drew (Below.drew (Below.refl _ _))).mono ?_
      rintro e v3 ⟨hv3,hcase⟩
      have HV3:Hid (Bl wr v3):=Bl.tr (Below.drew (Below.refl _ _)) hv3
      obtain ⟨bb,Ebb⟩:=exh v3.heap.size
      have hbz:=Blk.new v3 114 #[.int .i64 0,.int .i64 0,.int .i64 0,.int .i64 0,.int .i64 0,.int .u64 0,.int .i64 0,.int .u16 0]
      have HV4:Hid (Bl wr (v3.alloc (.cells #[.int .i64 0,.int .i64 0,.int .i64 0,.int .i64 0,.int .i64 0,.int .u64 0,.int .i64 0,.int .u16 0] 114))):=Bl.tr HV3.out ((Below.refl _ _).alloc (Nat.le_refl _) _)
      have hbb:wr.heap.size≤bb:=by rw [Ebb.out];exact HV3.out.size
      rw [←Ebb.out] at hbz
      rcases hcase with ⟨hsm,rfl⟩ | ⟨hsm,rfl⟩
      ·go_wp2_with fail
       refine wo hK True.intro fun hHeld2=>?_
       clear hK K hv3
       refine tk 7 ?_
       refine tk 8 ?_
       refine tk 9 ?_
       refine rd 10 fun K hK=>?_
       (try simp only [gA,gB,gC]);go_simp
       rw [←Ebb.out]
       generalize v3.alloc (.cells #[.int .i64 0,.int .i64 0,.int .i64 0,.int .i64 0,.int .i64 0,.int .u64 0,.int .i64 0,.int .u16 0] 114)=w5 at *
       refine wo hK True.intro fun hHeld3=>?_
       clear hK K
       have hbb0:w0.heap.size≤bb:=Nat.le_trans HCK.out.bw.size hbb
       have f0:=hbz.frozen 0
       have z0:w5.cell? ⟨bb,0,none⟩=some (.int .i64 0):=hbz.cell (i:=0) rfl
       have f1:=hbz.frozen 1
       have z1:w5.cell? ⟨bb,1,none⟩=some (.int .i64 0):=hbz.cell (i:=1) rfl
       have f2:=hbz.frozen 2
       have z2:w5.cell? ⟨bb,2,none⟩=some (.int .i64 0):=hbz.cell (i:=2) rfl
       have f3:=hbz.frozen 3
       have z3:w5.cell? ⟨bb,3,none⟩=some (.int .i64 0):=hbz.cell (i:=3) rfl
       have f4:=hbz.frozen 4
       have z4:w5.cell? ⟨bb,4,none⟩=some (.int .i64 0):=hbz.cell (i:=4) rfl
       have f5:=hbz.frozen 5
       have z5:w5.cell? ⟨bb,5,none⟩=some (.int .u64 0):=hbz.cell (i:=5) rfl
       have f6:=hbz.frozen 6
       have z6:w5.cell? ⟨bb,6,none⟩=some (.int .i64 0):=hbz.cell (i:=6) rfl
       have f7:=hbz.frozen 7
       have z7:w5.cell? ⟨bb,7,none⟩=some (.int .u16 0):=hbz.cell (i:=7) rfl
       refine rd 11 fun K hK=>?_
       (try simp only [gA,gB,gC]);go_simp
       refine wo hK True.intro fun hHeld4=>?_
       clear hK K
       refine tk 12 ?_
       refine wpAnyH_done (by kernel_rfl) ?_ _
       refine NoPanic.normal ?_
       have hkb:some bb≠(Value.slice ka k2.length kc).ownBlock:=fun e=>by have:=own_lt HCK.out.own bb e.symm;omega
       have HC6:Hid (CoK w0 ((((((((w5.setCell ⟨bb,0,none⟩ (.int .i64 (lvN c1 0:Nat))).setCell ⟨bb,1,none⟩ (.int .i64 (lvN c1 1:Nat))).setCell ⟨bb,2,none⟩ (.int .i64 (lvN c1 2:Nat))).setCell ⟨bb,3,none⟩ (.int .i64 (lvN c1 3:Nat))).setCell ⟨bb,4,none⟩ (.int .i64 (c1.lv.length:Nat))).setCell ⟨bb,5,none⟩ (.int .u64 (mkM c1.lv:Nat))).setCell ⟨bb,6,none⟩ (.int .i64 (c1.dep:Nat))).setCell ⟨bb,7,none⟩ (.int .u16 (c1.tb:Nat))) Cs (.slice ka k2.length kc) k2):=CoK.eight (HCK.out.to HV4.out) hbb0 hkb
       have hb6:Blk ((((((((w5.setCell ⟨bb,0,none⟩ (.int .i64 (lvN c1 0:Nat))).setCell ⟨bb,1,none⟩ (.int .i64 (lvN c1 1:Nat))).setCell ⟨bb,2,none⟩ (.int .i64 (lvN c1 2:Nat))).setCell ⟨bb,3,none⟩ (.int .i64 (lvN c1 3:Nat))).setCell ⟨bb,4,none⟩ (.int .i64 (c1.lv.length:Nat))).setCell ⟨bb,5,none⟩ (.int .u64 (mkM c1.lv:Nat))).setCell ⟨bb,6,none⟩ (.int .i64 (c1.dep:Nat))).setCell ⟨bb,7,none⟩ (.int .u16 (c1.tb:Nat))) bb 114 (ctC c1).toArray:=Blk.eight (v0:=.int .i64 (lvN c1 0:Nat)) (v1:=.int .i64 (lvN c1 1:Nat)) (v2:=.int .i64 (lvN c1 2:Nat)) (v3:=.int .i64 (lvN c1 3:Nat)) (v4:=.int .i64 (c1.lv.length:Nat)) (v5:=.int .u64 (mkM c1.lv:Nat)) (v6:=.int .i64 (c1.dep:Nat)) (v7:=.int .u16 (c1.tb:Nat)) hbz
       have HKB:=hidden hkb
       clear f0 z0 f1 z1 f2 z2 f3 z3 f4 z4 f5 z5 f6 z6 f7 z7 hbz HCK HV4 JN HCR hkb hHeld hHeld2 hHeld3 hHeld4
       generalize ((((((((w5.setCell ⟨bb,0,none⟩ (.int .i64 (lvN c1 0:Nat))).setCell ⟨bb,1,none⟩ (.int .i64 (lvN c1 1:Nat))).setCell ⟨bb,2,none⟩ (.int .i64 (lvN c1 2:Nat))).setCell ⟨bb,3,none⟩ (.int .i64 (lvN c1 3:Nat))).setCell ⟨bb,4,none⟩ (.int .i64 (c1.lv.length:Nat))).setCell ⟨bb,5,none⟩ (.int .u64 (mkM c1.lv:Nat))).setCell ⟨bb,6,none⟩ (.int .i64 (c1.dep:Nat))).setCell ⟨bb,7,none⟩ (.int .u16 (c1.tb:Nat)))=w6 at *
       have HB6:=hidden hb6
       have hLc:LvIn N c1:=by rw [Ec1.out];exact ctJ_in (i:=bi) (j:=bj) HA.out.2.2.1 HB.out.2.2.1 hsm
       have HLC:=hidden hLc
       obtain ⟨ka',kc',hv',hcr⟩:=own_rowC HC6.out.own
       obtain ⟨h1,h2,h3⟩:ka=ka'∧k2.length=k2.length∧kc=kc':=by simpa using hv'
       subst h1 h3
       have HLK:Hid (∀ k,k ∈ k2→LvIn N k):=by rw [EN.out];exact HC6.out.lv
       have BT:=hidden (HBT.out w6 bb c1 ka kc k2 (HW0.out w6 HC6.out.bw) (CtAt.blk hb6) hLc hcr HLK.out HC6.out.num)
       have HKP:Hid (pairT KK bi bj k2 a b=keepT KK k2 (ctJ bi bj a b)):=by show _=_;unfold pairT;rw [if_pos hsm]
       have HCL:Hid (c1.lv=(ctJ bi bj a b).lv∧c1.dep=(ctJ bi bj a b).dep):=by rw [Ec1.out];exact ⟨rfl,rfl⟩
       obtain ⟨bt,Ebt⟩:=exh (k2.any fun k=>beatsB KK k.lv c1.lv)
       rw [←Ebt.out] at BT
       rw [←Enk.out] at BT
       rw [←Enk.out]
       clear hcr hv' h2 hb6 hLc
       go_wp2_with fail
       go_at_call 71
       refine BT.out.mono ?_
       rintro e w7 ⟨rfl,hw7⟩
       have HC7:=hidden (HC6.out.to hw7)
       have HB7:=hidden (HB6.out.below hw7)
       clear hw7 BT HC6 HB6
       cases hbt:bt with
       | true =>
        have HNP:Hid (pairT KK bi bj k2 a b=k2):=by
         show _=_
         rw [HKP.out]
         unfold keepT
         rw [←HCL.out.1,←Ebt.out,hbt,if_pos rfl]
        clear HKP hbt
        go_wp2
        go_roundw
        case measure=>simp [intOf];omega
        case rel=>exact ⟨j+1,k2,by omega,by simp,by show _=_;rw [HNJ.out,HNP.out],by rw [Enk.out];exact HC7.out⟩
       | false =>
        have HNP:Hid (pairT KK bi bj k2 a b=(k2.filter fun k=>!beatsB KK c1.lv k.lv)++[ctJ bi bj a b]):=by
         show _=_
         rw [HKP.out]
         unfold keepT
         rw [←HCL.out.1,←Ebt.out,hbt,if_neg (by simp)]
        clear HKP hbt Ebt
        obtain ⟨x0,x1⟩:=HXB.out w7 HC7.out.bw
        have HSA:Hid (∀ u,u ∈ a.lv→u ∈ c1.lv):=by rw [Ec1.out];exact fun u hu=>(joinL_mem _ _ _).2 (Or.inl hu)
        have HSB:Hid (∀ u,u ∈ b.lv→u ∈ c1.lv):=by rw [Ec1.out];exact fun u hu=>(joinL_mem _ _ _).2 (Or.inr hu)
        obtain ⟨t1,Et1⟩:=exh (sprT (plc a.lv c1.lv) a.tb bi)
        obtain ⟨t2,Et2⟩:=exh (sprT (plc b.lv c1.lv) b.tb bj)
        have HS1:Hid (∀ v:World,Bl w7 v→Calls Try.prog 72 #[.pointer (some ⟨ab,sp*8+i*8,none⟩),.pointer (some ⟨bb,0,none⟩),.int .i64 x] v fun e w'=>e = .returned (.int .u16 (t1:Nat))∧Bl v w'):=fun v hv=>by
         have ha:=(HEA.out v (HW0.out v (Bl.tr HC7.out.bw hv))).1 i a HAI.out
         rw [Et1.out,Hbi.out]
         exact spread_any v ab _ bb 0 a c1 ha.1 (CtAt.blk (HB7.out.below hv)) ha.2.2.1.1 HLC.out.1 HSA.out ha.2.2.2 x HX0.out
        have HS2:Hid (∀ v:World,Bl w7 v→Calls Try.prog 72 #[.pointer (some ⟨ab,sq*8+j*8,none⟩),.pointer (some ⟨bb,0,none⟩),.int .i64 y] v fun e w'=>e = .returned (.int .u16 (t2:Nat))∧Bl v w'):=fun v hv=>by
         have hb:=(HEA.out v (HW0.out v (Bl.tr HC7.out.bw hv))).2 j b HBJ.out
         rw [Et2.out,Hbj.out]
         exact spread_any v ab _ bb 0 b c1 hb.1 (CtAt.blk (HB7.out.below hv)) hb.2.2.1.1 HLC.out.1 HSB.out hb.2.2.2 y HY0.out
        have ht1:t1<65536:=by rw [Et1.out];exact mkB_lt 16 _
        have ht2:t2<65536:=by rw [Et2.out];exact mkB_lt 16 _
        have hand:=u16_and_nat t1 t2 ht1 ht2
        obtain ⟨c2,Ec2⟩:=exh (ctJ bi bj a b)
        have HC2:Hid (∀ v:World,Blk v bb 114 (ctC c1).toArray→Blk (v.setCell ⟨bb,7,none⟩ (.int .u16 (t1 &&& t2:Nat))) bb 114 (ctC c2).toArray):=fun v hv=>by
         have h1:=hv.set 7 (.int .u16 (t1 &&& t2:Nat))
         have e:ctC c2=[.int .i64 (lvN c1 0:Nat),.int .i64 (lvN c1 1:Nat),.int .i64 (lvN c1 2:Nat),.int .i64 (lvN c1 3:Nat),.int .i64 (c1.lv.length:Nat),.int .u64 (mkM c1.lv:Nat),.int .i64 (c1.dep:Nat),.int .u16 (t1 &&& t2:Nat)]:=by
          rw [Ec2.out,Et1.out,Et2.out,Ec1.out];rfl
         rw [e];exact h1
        obtain ⟨t3,Et3⟩:=exh (t1 &&& t2)
        rw [←Et3.out] at hand HC2
        rw [←Ec2.out] at HNP
        have HLC2:Hid (LvIn N c2):=by rw [Ec2.out];exact ctJ_in HA.out.2.2.1 HB.out.2.2.1 hsm
        have HE2:Hid (c2.lv=c1.lv):=by rw [Ec2.out];exact HCL.out.1.symm
        clear ht1 ht2 Et1 Et2 Et3 HCL HSA HSB
        go_wp2_with fail
        refine wp_region_noPanic ?_
        refine wp_region_held_drew (S:=fun wz=>wz.cell? ⟨xb,0,none⟩=some (.int .i64 x)∧wz.cell? ⟨xb,1,none⟩=some (.int .i64 y)) (by kernel_rfl) (by exact ⟨x0,x1⟩) (fun hHeld=>?_)
        refine tk 0 ?_
        refine tk 1 ?_
        refine tk 2 ?_
        refine tk 3 ?_
        refine tk 4 ?_
        refine tk 6 ?_
        refine tk 7 ?_
        refine tk 8 ?_
        refine tk 9 ?_
        refine tk 10 ?_
        refine rd 5 fun K hK=>?_
        (try simp only [gA,gB,gC]);go_simp
        go_at_call 72
        refine (HS1.out w7.drew (Below.drew (Below.refl _ _))).mono ?_
        rintro e v7 ⟨rfl,hv7⟩
        have HV7:Hid (Bl w7 v7):=Bl.tr (Below.drew (Below.refl _ _)) hv7
        clear hv7
        go_wp2_with fail
        refine wo hK (HXB.out v7 (Bl.tr HC7.out.bw HV7.out)) fun hHeld2=>?_
        clear hK K
        refine rd 11 fun K hK=>?_
        (try simp only [gA,gB,gC]);go_simp
        go_at_call 72
        refine (HS2.out v7 HV7.out).mono ?_
        rintro e v8 ⟨rfl,hv8⟩
        have HV8:Hid (Bl w7 v8):=Bl.tr HV7.out hv8
        clear hv8
        go_wp2_with fail
        refine wo hK (HXB.out v8 (Bl.tr HC7.out.bw HV8.out)) fun hHeld3=>?_
        clear hK K
        have hb8:=HB7.out.below HV8.out
        have y7:v8.cell? ⟨bb,7,none⟩=some (.int .u16 (c1.tb:Nat)):=hb8.cell (i:=7) rfl
        have f7:=hb8.frozen 7
        have HB9:=hidden (HC2.out v8 hb8)
        have HC9:=hidden ((HC7.out.to HV8.out).box (o:=7) (x:=.int .u16 (t3:Nat)) hbb0 HKB.out)
        have HX9:Hid ((v8.setCell ⟨bb,7,none⟩ (.int .u16 (t3:Nat))).cell? ⟨xb,0,none⟩=some (.int .i64 x)∧(v8.setCell ⟨bb,7,none⟩ (.int .u16 (t3:Nat))).cell? ⟨xb,1,none⟩=some (.int .i64 y)):=HXB.out _ HC9.out.bw
        refine tk 12 ?_
        refine tk 13 ?_
        refine rd 14 fun K hK=>?_
        (try simp only [gA,gB,gC]);go_simp
        refine wo hK HX9.out fun hHeld4=>?_
        clear hK K
        refine wpAnyH_done (by kernel_rfl) ?_ _
        refine NoPanic.normal ?_
        clear hHeld hHeld2 hHeld3 hHeld4 x0 x1 y7 f7 hb8 HX9 HV7 HV8 HS1 HS2 HB7 HC7 HC2 hand
        generalize v8.setCell ⟨bb,7,none⟩ (.int .u16 (t3:Nat))=w9 at *
        have hat9:=CtAt.blk HB9.out
        have r0:w9.cell? ⟨bb,0,none⟩=some (.int .i64 (lvN c2 0:Nat)):=hat9.c0
        have r1:w9.cell? ⟨bb,1,none⟩=some (.int .i64 (lvN c2 1:Nat)):=hat9.c1
        have r2:w9.cell? ⟨bb,2,none⟩=some (.int .i64 (lvN c2 2:Nat)):=hat9.c2
        have r3:w9.cell? ⟨bb,3,none⟩=some (.int .i64 (lvN c2 3:Nat)):=hat9.c3
        have r4:w9.cell? ⟨bb,4,none⟩=some (.int .i64 (c2.lv.length:Nat)):=hat9.c4
        have r5:w9.cell? ⟨bb,5,none⟩=some (.int .u64 (mkM c2.lv:Nat)):=hat9.c5
        have r6:w9.cell? ⟨bb,6,none⟩=some (.int .i64 (c2.dep:Nat)):=hat9.c6
        have r7:w9.cell? ⟨bb,7,none⟩=some (.int .u16 (c2.tb:Nat)):=hat9.c7
        have HSS:Hid (∀ v:World,Blk v bb 114 (ctC c2).toArray→v.cell? ⟨bb,0,none⟩=some (.int .i64 (lvN c2 0:Nat))∧v.cell? ⟨bb,1,none⟩=some (.int .i64 (lvN c2 1:Nat))∧v.cell? ⟨bb,2,none⟩=some (.int .i64 (lvN c2 2:Nat))∧v.cell? ⟨bb,3,none⟩=some (.int .i64 (lvN c2 3:Nat))∧v.cell? ⟨bb,4,none⟩=some (.int .i64 (c2.lv.length:Nat))∧v.cell? ⟨bb,5,none⟩=some (.int .u64 (mkM c2.lv:Nat))∧v.cell? ⟨bb,6,none⟩=some (.int .i64 (c2.dep:Nat))∧v.cell? ⟨bb,7,none⟩=some (.int .u16 (c2.tb:Nat))):=fun v hv=>⟨(CtAt.blk hv).c0,(CtAt.blk hv).c1,(CtAt.blk hv).c2,(CtAt.blk hv).c3,(CtAt.blk hv).c4,(CtAt.blk hv).c5,(CtAt.blk hv).c6,(CtAt.blk hv).c7⟩
        have UB:Hid (∀ v:World,Bl w9 v→Calls Try.prog 73 #[.pointer (some ⟨fb,0,none⟩),.slice ka nk kc,.pointer (some ⟨bb,0,none⟩)] v fun e w'=>∃ v':Value,e = .returned v'∧Hid (w'.ownsRow w0.heap.size 114 8 v' (k2.filter fun k=>!beatsB KK c1.lv k.lv).length (flC (k2.filter fun k=>!beatsB KK c1.lv k.lv)))∧Hid (v.grownBy w' (Value.slice ka k2.length kc).ownBlock)∧Hid (v'.ownBlock=(Value.slice ka k2.length kc).ownBlock)):=fun v hv=>by
         rw [Enk.out,←HE2.out]
         exact HUB.out w0.heap.size v bb c2 (.slice ka k2.length kc) k2 HB0.out.size (HC9.out.to hv).bw.size (HW0.out v (HC9.out.to hv).bw) (CtAt.blk (HB9.out.below hv)) HLC2.out (HC9.out.to hv).own HKB.out HLK.out (HC9.out.to hv).num
        obtain ⟨fs,Efs⟩:=exh (k2.filter fun k=>!beatsB KK c1.lv k.lv)
        rw [←Efs.out] at UB HNP
        have hfs:fs.length≤70000:=by
         rw [Efs.out]
         exact Nat.le_trans (List.length_filter_le _ _) HC9.out.num
        have HLF:Hid (∀ k,k ∈ fs++[c2]→LvIn Cs.length k):=fun k hk=>by
         rcases List.mem_append.1 hk with hk | hk
         ·rw [Efs.out] at hk;exact HC9.out.lv k (List.mem_filter.1 hk).1
         ·rw [List.mem_singleton.1 hk,←EN.out];exact HLC2.out
        have HFN:Hid (fs.length+1≤70000):=by
         show _≤_
         have h1:=HN2.out
         have h2:fs.length≤k2.length:=by rw [Efs.out];exact List.length_filter_le _ _
         omega
        have HKR:Hid (∀ k,(Value.slice ka k2.length kc).ownBlock=some k→w0.heap.size≤k):=own_newB HC9.out.own
        have hsz9:w0.heap.size≤w9.heap.size:=HC9.out.bw.size
        have HFI:Hid (∀ (va wa wb:World) (v1:Value) (g cap:Nat),Bl w9 va→va.grownBy wa (Value.slice ka k2.length kc).ownBlock→v1.ownBlock=(Value.slice ka k2.length kc).ownBlock→(∀ wc:World,Bl wa wc→wc.grownBy wb v1.ownBlock→wb.ownsRow w0.heap.size 114 8 (.slice (some ⟨g,0,none⟩) (fs.length+1) cap) (fs.length+1) (flC fs++ctC c2)→CoK w0 wb Cs (.slice (some ⟨g,0,none⟩) (fs.length+1) cap) (fs++[c2]))):=fun va wa wb v1 g cap h1 h2 h3 wc h4 h5 h6=>by
         have e:(fs++[c2]).length=fs.length+1:=by simp
         refine ⟨?_,?_,HLF.out,by rw [e];exact HFN.out⟩
         ·rw [e,flC_snoc];exact h6
         ·have b1:Bl w0 va:=Bl.tr HC9.out.bw h1
          have b2:Below w0.heap.size va wa:=grow_low h2 b1.size HKR.out
          have b3:Below w0.heap.size wa wc:=h4.mono (Nat.le_trans b1.size b2.size)
          have b4:Below w0.heap.size wc wb:=grow_low h5 (Nat.le_trans b1.size (Nat.le_trans b2.size b3.size)) (fun k hk=>HKR.out k (by rw [←h3];exact hk))
          exact b1.trans (b2.trans (b3.trans b4))
        clear hat9
        go_wp2_with fail
        refine wp_region_noPanic ?_
        refine wp_region_held_drew (S:=fun wz=>wz.cell? ⟨bb,0,none⟩=some (.int .i64 (lvN c2 0:Nat))∧wz.cell? ⟨bb,1,none⟩=some (.int .i64 (lvN c2 1:Nat))∧wz.cell? ⟨bb,2,none⟩=some (.int .i64 (lvN c2 2:Nat))∧wz.cell? ⟨bb,3,none⟩=some (.int .i64 (lvN c2 3:Nat))∧wz.cell? ⟨bb,4,none⟩=some (.int .i64 (c2.lv.length:Nat))∧wz.cell? ⟨bb,5,none⟩=some (.int .u64 (mkM c2.lv:Nat))∧wz.cell? ⟨bb,6,none⟩=some (.int .i64 (c2.dep:Nat))∧wz.cell? ⟨bb,7,none⟩=some (.int .u16 (c2.tb:Nat))) (by kernel_rfl) (by exact HSS.out w9 HB9.out) (fun hHeld=>?_)
        refine tk 0 ?_
        refine tk 1 ?_
        refine tk 3 ?_
        refine wpAnyH_ready (rs:=[2,4]) (by kernel_rfl) (by simp) ?_
        refine AllReadyH.cons (o:=_) rfl (fun K hK=>?_) (AllReadyH.cons (o:=_) rfl (fun K hK=>?_) AllReadyH.nil)
        ·(try simp only [gA,gB,gC]);go_simp
         go_at_call 73
         refine (UB.out w9.drew (Below.drew (Below.refl _ _))).mono ?_
         rintro e v9 ⟨v1,rfl,HO1,HG1,HE1⟩
         have hb10:Blk v9 bb 114 (ctC c2).toArray:=blk_kept (w:=w9.drew) HB9.out HG1.out HKB.out
         go_wp2_with fail
         refine wo hK (HSS.out v9 hb10) fun hHeld2=>?_
         clear hK K
         refine rd 4 fun K hK=>?_
         (try simp only [gA,gB,gC]);go_simp
         have hb11:=Blk.new v9 114 (ctC c2).toArray
         have HB11:Hid (Bl v9 (v9.alloc (.cells (ctC c2).toArray 114))):=(Below.refl _ _).alloc (Nat.le_refl _) _
         obtain ⟨h11,Eh11⟩:=exh v9.heap.size
         have e11:Obj.cells #[.int .i64 (lvN c2 0:Nat),.int .i64 (lvN c2 1:Nat),.int .i64 (lvN c2 2:Nat),.int .i64 (lvN c2 3:Nat),.int .i64 (c2.lv.length:Nat),.int .u64 (mkM c2.lv:Nat),.int .i64 (c2.dep:Nat),.int .u16 (c2.tb:Nat)] 114 = .cells (ctC c2).toArray 114:=rfl
         rw [e11]
         rw [←Eh11.out] at hb11 ⊢
         generalize v9.alloc (.cells (ctC c2).toArray 114)=v10 at *
         refine wo hK (HSS.out v10 (hb10.below HB11.out)) fun hHeld3=>?_
         clear hK K
         refine rd 5 fun K hK=>?_
         refine step_cut _ rfl (.tmp 69) (.tmp 71) rfl w0.heap.size v1 fs.length _ rfl (own_below HO1.out HB11.out) h11 c2 rfl hb11 (by omega) (Nat.le_trans hsz9 (Nat.le_trans HG1.out.size HB11.out.size)) ?_
         intro g12 c12 w12 hown hgrow
         have HC12:=hidden (HFI.out w9.drew v9 w12 v1 g12 c12 (Below.drew (Below.refl _ _)) HG1.out HE1.out v10 HB11.out hgrow hown)
         have hb12:Blk w12 bb 114 (ctC c2).toArray:=blk_kept (hb10.below HB11.out) hgrow (by rw [HE1.out];exact HKB.out)
         refine wo hK (HSS.out w12 hb12) fun hHeld4=>?_
         clear hK K
         refine tk 6 ?_
         refine wpAnyH_done (by kernel_rfl) ?_ _
         refine NoPanic.normal ?_
         clear hHeld hHeld2 hHeld3 hHeld4 hb10 hb11 hb12 hown hgrow HO1 HG1 HE1 UB HFI r0 r1 r2 r3 r4 r5 r6 r7 HSS e11
         go_wp2
         go_roundw
         case measure=>simp [intOf];omega
         case rel=>exact ⟨j+1,fs++[c2],by omega,by simp,by show _=_;rw [HNJ.out,HNP.out],HC12.out⟩
        ·(try simp only [gA,gB,gC]);go_simp
         have hb11:Blk (w9.alloc (.cells (ctC c2).toArray 114)).drew w9.heap.size 114 (ctC c2).toArray:=Blk.new w9 114 (ctC c2).toArray
         have HB11:Hid (Bl w9 (w9.alloc (.cells (ctC c2).toArray 114)).drew):=Below.drew ((Below.refl _ _).alloc (Nat.le_refl _) _)
         obtain ⟨h11,Eh11⟩:=exh w9.heap.size
         have e11:Obj.cells #[.int .i64 (lvN c2 0:Nat),.int .i64 (lvN c2 1:Nat),.int .i64 (lvN c2 2:Nat),.int .i64 (lvN c2 3:Nat),.int .i64 (c2.lv.length:Nat),.int .u64 (mkM c2.lv:Nat),.int .i64 (c2.dep:Nat),.int .u16 (c2.tb:Nat)] 114 = .cells (ctC c2).toArray 114:=rfl
         rw [e11]
         rw [←Eh11.out] at hb11 ⊢
         generalize (w9.alloc (.cells (ctC c2).toArray 114)).drew=v9 at *
         refine wo hK (HSS.out v9 (HB9.out.below HB11.out)) fun hHeld2=>?_
         clear hK K
         refine rd 2 fun K hK=>?_
         (try simp only [gA,gB,gC]);go_simp
         go_at_call 73
         refine (UB.out v9 HB11.out).mono ?_
         rintro e v10 ⟨v1,rfl,HO1,HG1,HE1⟩
         have hb10:Blk v10 bb 114 (ctC c2).toArray:=blk_kept (HB9.out.below HB11.out) HG1.out HKB.out
         have hh11:Blk v10 h11 114 (ctC c2).toArray:=blk_kept hb11 HG1.out (fun e=>by have:=own_lt HC9.out.own h11 e.symm;rw [Eh11.out] at this;omega)
         go_wp2_with fail
         refine wo hK (HSS.out v10 hb10) fun hHeld3=>?_
         clear hK K
         refine rd 5 fun K hK=>?_
         refine step_cut _ rfl (.tmp 69) (.tmp 71) rfl w0.heap.size v1 fs.length _ rfl HO1.out h11 c2 rfl hh11 (by omega) (Nat.le_trans hsz9 (Nat.le_trans HB11.out.size HG1.out.size)) ?_
         intro g12 c12 w12 hown hgrow
         have HC12:=hidden (HFI.out v9 v10 w12 v1 g12 c12 HB11.out HG1.out HE1.out v10 (Below.refl _ _) hgrow hown)
         have hb12:Blk w12 bb 114 (ctC c2).toArray:=blk_kept hb10 hgrow (by rw [HE1.out];exact HKB.out)
         refine wo hK (HSS.out w12 hb12) fun hHeld4=>?_
         clear hK K
         refine tk 6 ?_
         refine wpAnyH_done (by kernel_rfl) ?_ _
         refine NoPanic.normal ?_
         clear hHeld hHeld2 hHeld3 hHeld4 hb10 hb11 hh11 hb12 hown hgrow HO1 HG1 HE1 UB HFI r0 r1 r2 r3 r4 r5 r6 r7 HSS e11
         go_wp2
         go_roundw
         case measure=>simp [intOf];omega
         case rel=>exact ⟨j+1,fs++[c2],by omega,by simp,by show _=_;rw [HNJ.out,HNP.out],HC12.out⟩
      ·go_wp2_with fail
       refine wo hK True.intro fun hHeld2=>?_
       clear hK K hv3
       refine tk 7 ?_
       refine tk 8 ?_
       refine tk 9 ?_
       refine rd 10 fun K hK=>?_
       (try simp only [gA,gB,gC]);go_simp
       rw [←Ebb.out]
       generalize v3.alloc (.cells #[.int .i64 0,.int .i64 0,.int .i64 0,.int .i64 0,.int .i64 0,.int .u64 0,.int .i64 0,.int .u16 0] 114)=w5 at *
       refine wo hK True.intro fun hHeld3=>?_
       clear hK K
       have hbb0:w0.heap.size≤bb:=Nat.le_trans HCK.out.bw.size hbb
       have HNP:Hid (pairT KK bi bj k2 a b=k2):=by show _=_;unfold pairT;rw [if_neg hsm]
       have f0:=hbz.frozen 0
       have z0:w5.cell? ⟨bb,0,none⟩=some (.int .i64 0):=hbz.cell (i:=0) rfl
       have f1:=hbz.frozen 1
       have z1:w5.cell? ⟨bb,1,none⟩=some (.int .i64 0):=hbz.cell (i:=1) rfl
       have f2:=hbz.frozen 2
       have z2:w5.cell? ⟨bb,2,none⟩=some (.int .i64 0):=hbz.cell (i:=2) rfl
       have f3:=hbz.frozen 3
       have z3:w5.cell? ⟨bb,3,none⟩=some (.int .i64 0):=hbz.cell (i:=3) rfl
       have f4:=hbz.frozen 4
       have z4:w5.cell? ⟨bb,4,none⟩=some (.int .i64 0):=hbz.cell (i:=4) rfl
       have f5:=hbz.frozen 5
       have z5:w5.cell? ⟨bb,5,none⟩=some (.int .u64 0):=hbz.cell (i:=5) rfl
       have f6:=hbz.frozen 6
       have z6:w5.cell? ⟨bb,6,none⟩=some (.int .i64 0):=hbz.cell (i:=6) rfl
       have f7:=hbz.frozen 7
       have z7:w5.cell? ⟨bb,7,none⟩=some (.int .u16 0):=hbz.cell (i:=7) rfl
       refine rd 11 fun K hK=>?_
       (try simp only [gA,gB,gC]);go_simp
       refine wo hK True.intro fun hHeld4=>?_
       clear hK K
       refine tk 12 ?_
       refine wpAnyH_done (by kernel_rfl) ?_ _
       refine NoPanic.normal ?_
       have HC6:Hid (CoK w0 ((((((((w5.setCell ⟨bb,0,none⟩ (.int .i64 0)).setCell ⟨bb,1,none⟩ (.int .i64 0)).setCell ⟨bb,2,none⟩ (.int .i64 0)).setCell ⟨bb,3,none⟩ (.int .i64 0)).setCell ⟨bb,4,none⟩ (.int .i64 0)).setCell ⟨bb,5,none⟩ (.int .u64 0)).setCell ⟨bb,6,none⟩ (.int .i64 0)).setCell ⟨bb,7,none⟩ (.int .u16 0)) Cs (.slice ka k2.length kc) k2):=CoK.eight (HCK.out.to HV4.out) hbb0 (fun e=>by have:=own_lt HCK.out.own bb e.symm;omega)
       clear f0 z0 f1 z1 f2 z2 f3 z3 f4 z4 f5 z5 f6 z6 f7 z7 hbz HCK HV4 JN HCR
       generalize ((((((((w5.setCell ⟨bb,0,none⟩ (.int .i64 0)).setCell ⟨bb,1,none⟩ (.int .i64 0)).setCell ⟨bb,2,none⟩ (.int .i64 0)).setCell ⟨bb,3,none⟩ (.int .i64 0)).setCell ⟨bb,4,none⟩ (.int .i64 0)).setCell ⟨bb,5,none⟩ (.int .u64 0)).setCell ⟨bb,6,none⟩ (.int .i64 0)).setCell ⟨bb,7,none⟩ (.int .u16 0))=w6 at *
       go_wp2
       go_roundw
       case measure=>simp [intOf];omega
       case rel=>exact ⟨j+1,k2,by omega,by simp,by show _=_;rw [HNJ.out,HNP.out],HC6.out⟩
     ·(try simp only [gA,gB,gC]);go_simp
      obtain ⟨bb,Ebb⟩:=exh wr.heap.size
      have hbz0:=Blk.new wr 114 #[.int .i64 0,.int .i64 0,.int .i64 0,.int .i64 0,.int .i64 0,.int .u64 0,.int .i64 0,.int .u16 0]
      have HV2:Hid (Bl wr (wr.alloc (.cells #[.int .i64 0,.int .i64 0,.int .i64 0,.int .i64 0,.int .i64 0,.int .u64 0,.int .i64 0,.int .u16 0] 114)).drew):=Below.drew ((Below.refl _ _).alloc (Nat.le_refl _) _)
      have hbz1:Blk (wr.alloc (.cells #[.int .i64 0,.int .i64 0,.int .i64 0,.int .i64 0,.int .i64 0,.int .u64 0,.int .i64 0,.int .u16 0] 114)).drew wr.heap.size 114 #[.int .i64 0,.int .i64 0,.int .i64 0,.int .i64 0,.int .i64 0,.int .u64 0,.int .i64 0,.int .u16 0]:=hbz0
      have hbb:wr.heap.size≤bb:=by rw [Ebb.out];exact Nat.le_refl _
      rw [←Ebb.out] at hbz1
      rw [←Ebb.out]
      clear hbz0
      generalize (wr.alloc (.cells #[.int .i64 0,.int .i64 0,.int .i64 0,.int .i64 0,.int .i64 0,.int .u64 0,.int .i64 0,.int .u16 0] 114)).drew=v2 at *
      refine wo hK True.intro fun hHeld2=>?_
      clear hK K
      refine rd 6 fun K hK=>?_
      (try simp only [gA,gB,gC]);go_simp
      go_at_call 70
      refine (JN.out v2 HV2.out).mono ?_
      rintro e w5 ⟨hv3,hcase⟩
      have HV4:Hid (Bl wr w5):=Bl.tr HV2.out hv3
      have hbz:=hbz1.below hv3
      clear hbz1 HV2
      rcases hcase with ⟨hsm,rfl⟩ | ⟨hsm,rfl⟩
      ·go_wp2_with fail
       refine wo hK True.intro fun hHeld3=>?_
       clear hK K hv3
       refine tk 7 ?_
       refine tk 8 ?_
       refine tk 9 ?_
       have hbb0:w0.heap.size≤bb:=Nat.le_trans HCK.out.bw.size hbb
       have f0:=hbz.frozen 0
       have z0:w5.cell? ⟨bb,0,none⟩=some (.int .i64 0):=hbz.cell (i:=0) rfl
       have f1:=hbz.frozen 1
       have z1:w5.cell? ⟨bb,1,none⟩=some (.int .i64 0):=hbz.cell (i:=1) rfl
       have f2:=hbz.frozen 2
       have z2:w5.cell? ⟨bb,2,none⟩=some (.int .i64 0):=hbz.cell (i:=2) rfl
       have f3:=hbz.frozen 3
       have z3:w5.cell? ⟨bb,3,none⟩=some (.int .i64 0):=hbz.cell (i:=3) rfl
       have f4:=hbz.frozen 4
       have z4:w5.cell? ⟨bb,4,none⟩=some (.int .i64 0):=hbz.cell (i:=4) rfl
       have f5:=hbz.frozen 5
       have z5:w5.cell? ⟨bb,5,none⟩=some (.int .u64 0):=hbz.cell (i:=5) rfl
       have f6:=hbz.frozen 6
       have z6:w5.cell? ⟨bb,6,none⟩=some (.int .i64 0):=hbz.cell (i:=6) rfl
       have f7:=hbz.frozen 7
       have z7:w5.cell? ⟨bb,7,none⟩=some (.int .u16 0):=hbz.cell (i:=7) rfl
       refine rd 11 fun K hK=>?_
       (try simp only [gA,gB,gC]);go_simp
       refine wo hK True.intro fun hHeld4=>?_
       clear hK K
       refine tk 12 ?_
       refine wpAnyH_done (by kernel_rfl) ?_ _
       refine NoPanic.normal ?_
       have hkb:some bb≠(Value.slice ka k2.length kc).ownBlock:=fun e=>by have:=own_lt HCK.out.own bb e.symm;omega
       have HC6:Hid (CoK w0 ((((((((w5.setCell ⟨bb,0,none⟩ (.int .i64 (lvN c1 0:Nat))).setCell ⟨bb,1,none⟩ (.int .i64 (lvN c1 1:Nat))).setCell ⟨bb,2,none⟩ (.int .i64 (lvN c1 2:Nat))).setCell ⟨bb,3,none⟩ (.int .i64 (lvN c1 3:Nat))).setCell ⟨bb,4,none⟩ (.int .i64 (c1.lv.length:Nat))).setCell ⟨bb,5,none⟩ (.int .u64 (mkM c1.lv:Nat))).setCell ⟨bb,6,none⟩ (.int .i64 (c1.dep:Nat))).setCell ⟨bb,7,none⟩ (.int .u16 (c1.tb:Nat))) Cs (.slice ka k2.length kc) k2):=CoK.eight (HCK.out.to HV4.out) hbb0 hkb
       have hb6:Blk ((((((((w5.setCell ⟨bb,0,none⟩ (.int .i64 (lvN c1 0:Nat))).setCell ⟨bb,1,none⟩ (.int .i64 (lvN c1 1:Nat))).setCell ⟨bb,2,none⟩ (.int .i64 (lvN c1 2:Nat))).setCell ⟨bb,3,none⟩ (.int .i64 (lvN c1 3:Nat))).setCell ⟨bb,4,none⟩ (.int .i64 (c1.lv.length:Nat))).setCell ⟨bb,5,none⟩ (.int .u64 (mkM c1.lv:Nat))).setCell ⟨bb,6,none⟩ (.int .i64 (c1.dep:Nat))).setCell ⟨bb,7,none⟩ (.int .u16 (c1.tb:Nat))) bb 114 (ctC c1).toArray:=Blk.eight (v0:=.int .i64 (lvN c1 0:Nat)) (v1:=.int .i64 (lvN c1 1:Nat)) (v2:=.int .i64 (lvN c1 2:Nat)) (v3:=.int .i64 (lvN c1 3:Nat)) (v4:=.int .i64 (c1.lv.length:Nat)) (v5:=.int .u64 (mkM c1.lv:Nat)) (v6:=.int .i64 (c1.dep:Nat)) (v7:=.int .u16 (c1.tb:Nat)) hbz
       have HKB:=hidden hkb
       clear f0 z0 f1 z1 f2 z2 f3 z3 f4 z4 f5 z5 f6 z6 f7 z7 hbz HCK HV4 JN HCR hkb hHeld hHeld2 hHeld3 hHeld4
       generalize ((((((((w5.setCell ⟨bb,0,none⟩ (.int .i64 (lvN c1 0:Nat))).setCell ⟨bb,1,none⟩ (.int .i64 (lvN c1 1:Nat))).setCell ⟨bb,2,none⟩ (.int .i64 (lvN c1 2:Nat))).setCell ⟨bb,3,none⟩ (.int .i64 (lvN c1 3:Nat))).setCell ⟨bb,4,none⟩ (.int .i64 (c1.lv.length:Nat))).setCell ⟨bb,5,none⟩ (.int .u64 (mkM c1.lv:Nat))).setCell ⟨bb,6,none⟩ (.int .i64 (c1.dep:Nat))).setCell ⟨bb,7,none⟩ (.int .u16 (c1.tb:Nat)))=w6 at *
       have HB6:=hidden hb6
       have hLc:LvIn N c1:=by rw [Ec1.out];exact ctJ_in (i:=bi) (j:=bj) HA.out.2.2.1 HB.out.2.2.1 hsm
       have HLC:=hidden hLc
       obtain ⟨ka',kc',hv',hcr⟩:=own_rowC HC6.out.own
       obtain ⟨h1,h2,h3⟩:ka=ka'∧k2.length=k2.length∧kc=kc':=by simpa using hv'
       subst h1 h3
       have HLK:Hid (∀ k,k ∈ k2→LvIn N k):=by rw [EN.out];exact HC6.out.lv
       have BT:=hidden (HBT.out w6 bb c1 ka kc k2 (HW0.out w6 HC6.out.bw) (CtAt.blk hb6) hLc hcr HLK.out HC6.out.num)
       have HKP:Hid (pairT KK bi bj k2 a b=keepT KK k2 (ctJ bi bj a b)):=by show _=_;unfold pairT;rw [if_pos hsm]
       have HCL:Hid (c1.lv=(ctJ bi bj a b).lv∧c1.dep=(ctJ bi bj a b).dep):=by rw [Ec1.out];exact ⟨rfl,rfl⟩
       obtain ⟨bt,Ebt⟩:=exh (k2.any fun k=>beatsB KK k.lv c1.lv)
       rw [←Ebt.out] at BT
       rw [←Enk.out] at BT
       rw [←Enk.out]
       clear hcr hv' h2 hb6 hLc
       go_wp2_with fail
       go_at_call 71
       refine BT.out.mono ?_
       rintro e w7 ⟨rfl,hw7⟩
       have HC7:=hidden (HC6.out.to hw7)
       have HB7:=hidden (HB6.out.below hw7)
       clear hw7 BT HC6 HB6
       cases hbt:bt with
       | true =>
        have HNP:Hid (pairT KK bi bj k2 a b=k2):=by
         show _=_
         rw [HKP.out]
         unfold keepT
         rw [←HCL.out.1,←Ebt.out,hbt,if_pos rfl]
        clear HKP hbt
        go_wp2
        go_roundw
        case measure=>simp [intOf];omega
        case rel=>exact ⟨j+1,k2,by omega,by simp,by show _=_;rw [HNJ.out,HNP.out],by rw [Enk.out];exact HC7.out⟩
       | false =>
        have HNP:Hid (pairT KK bi bj k2 a b=(k2.filter fun k=>!beatsB KK c1.lv k.lv)++[ctJ bi bj a b]):=by
         show _=_
         rw [HKP.out]
         unfold keepT
         rw [←HCL.out.1,←Ebt.out,hbt,if_neg (by simp)]
        clear HKP hbt Ebt
        obtain ⟨x0,x1⟩:=HXB.out w7 HC7.out.bw
        have HSA:Hid (∀ u,u ∈ a.lv→u ∈ c1.lv):=by rw [Ec1.out];exact fun u hu=>(joinL_mem _ _ _).2 (Or.inl hu)
        have HSB:Hid (∀ u,u ∈ b.lv→u ∈ c1.lv):=by rw [Ec1.out];exact fun u hu=>(joinL_mem _ _ _).2 (Or.inr hu)
        obtain ⟨t1,Et1⟩:=exh (sprT (plc a.lv c1.lv) a.tb bi)
        obtain ⟨t2,Et2⟩:=exh (sprT (plc b.lv c1.lv) b.tb bj)
        have HS1:Hid (∀ v:World,Bl w7 v→Calls Try.prog 72 #[.pointer (some ⟨ab,sp*8+i*8,none⟩),.pointer (some ⟨bb,0,none⟩),.int .i64 x] v fun e w'=>e = .returned (.int .u16 (t1:Nat))∧Bl v w'):=fun v hv=>by
         have ha:=(HEA.out v (HW0.out v (Bl.tr HC7.out.bw hv))).1 i a HAI.out
         rw [Et1.out,Hbi.out]
         exact spread_any v ab _ bb 0 a c1 ha.1 (CtAt.blk (HB7.out.below hv)) ha.2.2.1.1 HLC.out.1 HSA.out ha.2.2.2 x HX0.out
        have HS2:Hid (∀ v:World,Bl w7 v→Calls Try.prog 72 #[.pointer (some ⟨ab,sq*8+j*8,none⟩),.pointer (some ⟨bb,0,none⟩),.int .i64 y] v fun e w'=>e = .returned (.int .u16 (t2:Nat))∧Bl v w'):=fun v hv=>by
         have hb:=(HEA.out v (HW0.out v (Bl.tr HC7.out.bw hv))).2 j b HBJ.out
         rw [Et2.out,Hbj.out]
         exact spread_any v ab _ bb 0 b c1 hb.1 (CtAt.blk (HB7.out.below hv)) hb.2.2.1.1 HLC.out.1 HSB.out hb.2.2.2 y HY0.out
        have ht1:t1<65536:=by rw [Et1.out];exact mkB_lt 16 _
        have ht2:t2<65536:=by rw [Et2.out];exact mkB_lt 16 _
        have hand:=u16_and_nat t1 t2 ht1 ht2
        obtain ⟨c2,Ec2⟩:=exh (ctJ bi bj a b)
        have HC2:Hid (∀ v:World,Blk v bb 114 (ctC c1).toArray→Blk (v.setCell ⟨bb,7,none⟩ (.int .u16 (t1 &&& t2:Nat))) bb 114 (ctC c2).toArray):=fun v hv=>by
         have h1:=hv.set 7 (.int .u16 (t1 &&& t2:Nat))
         have e:ctC c2=[.int .i64 (lvN c1 0:Nat),.int .i64 (lvN c1 1:Nat),.int .i64 (lvN c1 2:Nat),.int .i64 (lvN c1 3:Nat),.int .i64 (c1.lv.length:Nat),.int .u64 (mkM c1.lv:Nat),.int .i64 (c1.dep:Nat),.int .u16 (t1 &&& t2:Nat)]:=by
          rw [Ec2.out,Et1.out,Et2.out,Ec1.out];rfl
         rw [e];exact h1
        obtain ⟨t3,Et3⟩:=exh (t1 &&& t2)
        rw [←Et3.out] at hand HC2
        rw [←Ec2.out] at HNP
        have HLC2:Hid (LvIn N c2):=by rw [Ec2.out];exact ctJ_in HA.out.2.2.1 HB.out.2.2.1 hsm
        have HE2:Hid (c2.lv=c1.lv):=by rw [Ec2.out];exact HCL.out.1.symm
        clear ht1 ht2 Et1 Et2 Et3 HCL HSA HSB
        go_wp2_with fail
        refine wp_region_noPanic ?_
        refine wp_region_held_drew (S:=fun wz=>wz.cell? ⟨xb,0,none⟩=some (.int .i64 x)∧wz.cell? ⟨xb,1,none⟩=some (.int .i64 y)) (by kernel_rfl) (by exact ⟨x0,x1⟩) (fun hHeld=>?_)
        refine tk 0 ?_
        refine tk 1 ?_
        refine tk 2 ?_
        refine tk 3 ?_
        refine tk 4 ?_
        refine tk 6 ?_
        refine tk 7 ?_
        refine tk 8 ?_
        refine tk 9 ?_
        refine tk 10 ?_
        refine rd 5 fun K hK=>?_
        (try simp only [gA,gB,gC]);go_simp
        go_at_call 72
        refine (HS1.out w7.drew (Below.drew (Below.refl _ _))).mono ?_
        rintro e v7 ⟨rfl,hv7⟩
        have HV7:Hid (Bl w7 v7):=Bl.tr (Below.drew (Below.refl _ _)) hv7
        clear hv7
        go_wp2_with fail
        refine wo hK (HXB.out v7 (Bl.tr HC7.out.bw HV7.out)) fun hHeld2=>?_
        clear hK K
        refine rd 11 fun K hK=>?_
        (try simp only [gA,gB,gC]);go_simp
        go_at_call 72
        refine (HS2.out v7 HV7.out).mono ?_
        rintro e v8 ⟨rfl,hv8⟩
        have HV8:Hid (Bl w7 v8):=Bl.tr HV7.out hv8
        clear hv8
        go_wp2_with fail
        refine wo hK (HXB.out v8 (Bl.tr HC7.out.bw HV8.out)) fun hHeld3=>?_
        clear hK K
        have hb8:=HB7.out.below HV8.out
        have y7:v8.cell? ⟨bb,7,none⟩=some (.int .u16 (c1.tb:Nat)):=hb8.cell (i:=7) rfl
        have f7:=hb8.frozen 7
        have HB9:=hidden (HC2.out v8 hb8)
        have HC9:=hidden ((HC7.out.to HV8.out).box (o:=7) (x:=.int .u16 (t3:Nat)) hbb0 HKB.out)
        have HX9:Hid ((v8.setCell ⟨bb,7,none⟩ (.int .u16 (t3:Nat))).cell? ⟨xb,0,none⟩=some (.int .i64 x)∧(v8.setCell ⟨bb,7,none⟩ (.int .u16 (t3:Nat))).cell? ⟨xb,1,none⟩=some (.int .i64 y)):=HXB.out _ HC9.out.bw
        refine tk 12 ?_
        refine tk 13 ?_
        refine rd 14 fun K hK=>?_
        (try simp only [gA,gB,gC]);go_simp
        refine wo hK HX9.out fun hHeld4=>?_
        clear hK K
        refine wpAnyH_done (by kernel_rfl) ?_ _
        refine NoPanic.normal ?_
        clear hHeld hHeld2 hHeld3 hHeld4 x0 x1 y7 f7 hb8 HX9 HV7 HV8 HS1 HS2 HB7 HC7 HC2 hand
        generalize v8.setCell ⟨bb,7,none⟩ (.int .u16 (t3:Nat))=w9 at *
        have hat9:=CtAt.blk HB9.out
        have r0:w9.cell? ⟨bb,0,none⟩=some (.int .i64 (lvN c2 0:Nat)):=hat9.c0
        have r1:w9.cell? ⟨bb,1,none⟩=some (.int .i64 (lvN c2 1:Nat)):=hat9.c1
        have r2:w9.cell? ⟨bb,2,none⟩=some (.int .i64 (lvN c2 2:Nat)):=hat9.c2
        have r3:w9.cell? ⟨bb,3,none⟩=some (.int .i64 (lvN c2 3:Nat)):=hat9.c3
        have r4:w9.cell? ⟨bb,4,none⟩=some (.int .i64 (c2.lv.length:Nat)):=hat9.c4
        have r5:w9.cell? ⟨bb,5,none⟩=some (.int .u64 (mkM c2.lv:Nat)):=hat9.c5
        have r6:w9.cell? ⟨bb,6,none⟩=some (.int .i64 (c2.dep:Nat)):=hat9.c6
        have r7:w9.cell? ⟨bb,7,none⟩=some (.int .u16 (c2.tb:Nat)):=hat9.c7
        have HSS:Hid (∀ v:World,Blk v bb 114 (ctC c2).toArray→v.cell? ⟨bb,0,none⟩=some (.int .i64 (lvN c2 0:Nat))∧v.cell? ⟨bb,1,none⟩=some (.int .i64 (lvN c2 1:Nat))∧v.cell? ⟨bb,2,none⟩=some (.int .i64 (lvN c2 2:Nat))∧v.cell? ⟨bb,3,none⟩=some (.int .i64 (lvN c2 3:Nat))∧v.cell? ⟨bb,4,none⟩=some (.int .i64 (c2.lv.length:Nat))∧v.cell? ⟨bb,5,none⟩=some (.int .u64 (mkM c2.lv:Nat))∧v.cell? ⟨bb,6,none⟩=some (.int .i64 (c2.dep:Nat))∧v.cell? ⟨bb,7,none⟩=some (.int .u16 (c2.tb:Nat))):=fun v hv=>⟨(CtAt.blk hv).c0,(CtAt.blk hv).c1,(CtAt.blk hv).c2,(CtAt.blk hv).c3,(CtAt.blk hv).c4,(CtAt.blk hv).c5,(CtAt.blk hv).c6,(CtAt.blk hv).c7⟩
        have UB:Hid (∀ v:World,Bl w9 v→Calls Try.prog 73 #[.pointer (some ⟨fb,0,none⟩),.slice ka nk kc,.pointer (some ⟨bb,0,none⟩)] v fun e w'=>∃ v':Value,e = .returned v'∧Hid (w'.ownsRow w0.heap.size 114 8 v' (k2.filter fun k=>!beatsB KK c1.lv k.lv).length (flC (k2.filter fun k=>!beatsB KK c1.lv k.lv)))∧Hid (v.grownBy w' (Value.slice ka k2.length kc).ownBlock)∧Hid (v'.ownBlock=(Value.slice ka k2.length kc).ownBlock)):=fun v hv=>by
         rw [Enk.out,←HE2.out]
         exact HUB.out w0.heap.size v bb c2 (.slice ka k2.length kc) k2 HB0.out.size (HC9.out.to hv).bw.size (HW0.out v (HC9.out.to hv).bw) (CtAt.blk (HB9.out.below hv)) HLC2.out (HC9.out.to hv).own HKB.out HLK.out (HC9.out.to hv).num
        obtain ⟨fs,Efs⟩:=exh (k2.filter fun k=>!beatsB KK c1.lv k.lv)
        rw [←Efs.out] at UB HNP
        have hfs:fs.length≤70000:=by
         rw [Efs.out]
         exact Nat.le_trans (List.length_filter_le _ _) HC9.out.num
        have HLF:Hid (∀ k,k ∈ fs++[c2]→LvIn Cs.length k):=fun k hk=>by
         rcases List.mem_append.1 hk with hk | hk
         ·rw [Efs.out] at hk;exact HC9.out.lv k (List.mem_filter.1 hk).1
         ·rw [List.mem_singleton.1 hk,←EN.out];exact HLC2.out
        have HFN:Hid (fs.length+1≤70000):=by
         show _≤_
         have h1:=HN2.out
         have h2:fs.length≤k2.length:=by rw [Efs.out];exact List.length_filter_le _ _
         omega
        have HKR:Hid (∀ k,(Value.slice ka k2.length kc).ownBlock=some k→w0.heap.size≤k):=own_newB HC9.out.own
        have hsz9:w0.heap.size≤w9.heap.size:=HC9.out.bw.size
        have HFI:Hid (∀ (va wa wb:World) (v1:Value) (g cap:Nat),Bl w9 va→va.grownBy wa (Value.slice ka k2.length kc).ownBlock→v1.ownBlock=(Value.slice ka k2.length kc).ownBlock→(∀ wc:World,Bl wa wc→wc.grownBy wb v1.ownBlock→wb.ownsRow w0.heap.size 114 8 (.slice (some ⟨g,0,none⟩) (fs.length+1) cap) (fs.length+1) (flC fs++ctC c2)→CoK w0 wb Cs (.slice (some ⟨g,0,none⟩) (fs.length+1) cap) (fs++[c2]))):=fun va wa wb v1 g cap h1 h2 h3 wc h4 h5 h6=>by
         have e:(fs++[c2]).length=fs.length+1:=by simp
         refine ⟨?_,?_,HLF.out,by rw [e];exact HFN.out⟩
         ·rw [e,flC_snoc];exact h6
         ·have b1:Bl w0 va:=Bl.tr HC9.out.bw h1
          have b2:Below w0.heap.size va wa:=grow_low h2 b1.size HKR.out
          have b3:Below w0.heap.size wa wc:=h4.mono (Nat.le_trans b1.size b2.size)
          have b4:Below w0.heap.size wc wb:=grow_low h5 (Nat.le_trans b1.size (Nat.le_trans b2.size b3.size)) (fun k hk=>HKR.out k (by rw [←h3];exact hk))
          exact b1.trans (b2.trans (b3.trans b4))
        clear hat9
        go_wp2_with fail
        refine wp_region_noPanic ?_
        refine wp_region_held_drew (S:=fun wz=>wz.cell? ⟨bb,0,none⟩=some (.int .i64 (lvN c2 0:Nat))∧wz.cell? ⟨bb,1,none⟩=some (.int .i64 (lvN c2 1:Nat))∧wz.cell? ⟨bb,2,none⟩=some (.int .i64 (lvN c2 2:Nat))∧wz.cell? ⟨bb,3,none⟩=some (.int .i64 (lvN c2 3:Nat))∧wz.cell? ⟨bb,4,none⟩=some (.int .i64 (c2.lv.length:Nat))∧wz.cell? ⟨bb,5,none⟩=some (.int .u64 (mkM c2.lv:Nat))∧wz.cell? ⟨bb,6,none⟩=some (.int .i64 (c2.dep:Nat))∧wz.cell? ⟨bb,7,none⟩=some (.int .u16 (c2.tb:Nat))) (by kernel_rfl) (by exact HSS.out w9 HB9.out) (fun hHeld=>?_)
        refine tk 0 ?_
        refine tk 1 ?_
        refine tk 3 ?_
        refine wpAnyH_ready (rs:=[2,4]) (by kernel_rfl) (by simp) ?_
        refine AllReadyH.cons (o:=_) rfl (fun K hK=>?_) (AllReadyH.cons (o:=_) rfl (fun K hK=>?_) AllReadyH.nil)
        ·(try simp only [gA,gB,gC]);go_simp
         go_at_call 73
         refine (UB.out w9.drew (Below.drew (Below.refl _ _))).mono ?_
         rintro e v9 ⟨v1,rfl,HO1,HG1,HE1⟩
         have hb10:Blk v9 bb 114 (ctC c2).toArray:=blk_kept (w:=w9.drew) HB9.out HG1.out HKB.out
         go_wp2_with fail
         refine wo hK (HSS.out v9 hb10) fun hHeld2=>?_
         clear hK K
         refine rd 4 fun K hK=>?_
         (try simp only [gA,gB,gC]);go_simp
         have hb11:=Blk.new v9 114 (ctC c2).toArray
         have HB11:Hid (Bl v9 (v9.alloc (.cells (ctC c2).toArray 114))):=(Below.refl _ _).alloc (Nat.le_refl _) _
         obtain ⟨h11,Eh11⟩:=exh v9.heap.size
         have e11:Obj.cells #[.int .i64 (lvN c2 0:Nat),.int .i64 (lvN c2 1:Nat),.int .i64 (lvN c2 2:Nat),.int .i64 (lvN c2 3:Nat),.int .i64 (c2.lv.length:Nat),.int .u64 (mkM c2.lv:Nat),.int .i64 (c2.dep:Nat),.int .u16 (c2.tb:Nat)] 114 = .cells (ctC c2).toArray 114:=rfl
         rw [e11]
         rw [←Eh11.out] at hb11 ⊢
         generalize v9.alloc (.cells (ctC c2).toArray 114)=v10 at *
         refine wo hK (HSS.out v10 (hb10.below HB11.out)) fun hHeld3=>?_
         clear hK K
         refine rd 5 fun K hK=>?_
         refine step_cut _ rfl (.tmp 69) (.tmp 71) rfl w0.heap.size v1 fs.length _ rfl (own_below HO1.out HB11.out) h11 c2 rfl hb11 (by omega) (Nat.le_trans hsz9 (Nat.le_trans HG1.out.size HB11.out.size)) ?_
         intro g12 c12 w12 hown hgrow
         have HC12:=hidden (HFI.out w9.drew v9 w12 v1 g12 c12 (Below.drew (Below.refl _ _)) HG1.out HE1.out v10 HB11.out hgrow hown)
         have hb12:Blk w12 bb 114 (ctC c2).toArray:=blk_kept (hb10.below HB11.out) hgrow (by rw [HE1.out];exact HKB.out)
         refine wo hK (HSS.out w12 hb12) fun hHeld4=>?_
         clear hK K
         refine tk 6 ?_
         refine wpAnyH_done (by kernel_rfl) ?_ _
         refine NoPanic.normal ?_
         clear hHeld hHeld2 hHeld3 hHeld4 hb10 hb11 hb12 hown hgrow HO1 HG1 HE1 UB HFI r0 r1 r2 r3 r4 r5 r6 r7 HSS e11
         go_wp2
         go_roundw
         case measure=>simp [intOf];omega
         case rel=>exact ⟨j+1,fs++[c2],by omega,by simp,by show _=_;rw [HNJ.out,HNP.out],HC12.out⟩
        ·(try simp only [gA,gB,gC]);go_simp
         have hb11:Blk (w9.alloc (.cells (ctC c2).toArray 114)).drew w9.heap.size 114 (ctC c2).toArray:=Blk.new w9 114 (ctC c2).toArray
         have HB11:Hid (Bl w9 (w9.alloc (.cells (ctC c2).toArray 114)).drew):=Below.drew ((Below.refl _ _).alloc (Nat.le_refl _) _)
         obtain ⟨h11,Eh11⟩:=exh w9.heap.size
         have e11:Obj.cells #[.int .i64 (lvN c2 0:Nat),.int .i64 (lvN c2 1:Nat),.int .i64 (lvN c2 2:Nat),.int .i64 (lvN c2 3:Nat),.int .i64 (c2.lv.length:Nat),.int .u64 (mkM c2.lv:Nat),.int .i64 (c2.dep:Nat),.int .u16 (c2.tb:Nat)] 114 = .cells (ctC c2).toArray 114:=rfl
         rw [e11]
         rw [←Eh11.out] at hb11 ⊢
         generalize (w9.alloc (.cells (ctC c2).toArray 114)).drew=v9 at *
         refine wo hK (HSS.out v9 (HB9.out.below HB11.out)) fun hHeld2=>?_
         clear hK K
         refine rd 2 fun K hK=>?_
         (try simp only [gA,gB,gC]);go_simp
         go_at_call 73
         refine (UB.out v9 HB11.out).mono ?_
         rintro e v10 ⟨v1,rfl,HO1,HG1,HE1⟩
         have hb10:Blk v10 bb 114 (ctC c2).toArray:=blk_kept (HB9.out.below HB11.out) HG1.out HKB.out
         have hh11:Blk v10 h11 114 (ctC c2).toArray:=blk_kept hb11 HG1.out (fun e=>by have:=own_lt HC9.out.own h11 e.symm;rw [Eh11.out] at this;omega)
         go_wp2_with fail
         refine wo hK (HSS.out v10 hb10) fun hHeld3=>?_
         clear hK K
         refine rd 5 fun K hK=>?_
         refine step_cut _ rfl (.tmp 69) (.tmp 71) rfl w0.heap.size v1 fs.length _ rfl HO1.out h11 c2 rfl hh11 (by omega) (Nat.le_trans hsz9 (Nat.le_trans HB11.out.size HG1.out.size)) ?_
         intro g12 c12 w12 hown hgrow
         have HC12:=hidden (HFI.out v9 v10 w12 v1 g12 c12 HB11.out HG1.out HE1.out v10 (Below.refl _ _) hgrow hown)
         have hb12:Blk w12 bb 114 (ctC c2).toArray:=blk_kept hb10 hgrow (by rw [HE1.out];exact HKB.out)
         refine wo hK (HSS.out w12 hb12) fun hHeld4=>?_
         clear hK K
         refine tk 6 ?_
         refine wpAnyH_done (by kernel_rfl) ?_ _
         refine NoPanic.normal ?_
         clear hHeld hHeld2 hHeld3 hHeld4 hb10 hb11 hh11 hb12 hown hgrow HO1 HG1 HE1 UB HFI r0 r1 r2 r3 r4 r5 r6 r7 HSS e11
         go_wp2
         go_roundw
         case measure=>simp [intOf];omega
         case rel=>exact ⟨j+1,fs++[c2],by omega,by simp,by show _=_;rw [HNJ.out,HNP.out],HC12.out⟩
      ·go_wp2_with fail
       refine wo hK True.intro fun hHeld3=>?_
       clear hK K hv3
       refine tk 7 ?_
       refine tk 8 ?_
       refine tk 9 ?_
       have hbb0:w0.heap.size≤bb:=Nat.le_trans HCK.out.bw.size hbb
       have HNP:Hid (pairT KK bi bj k2 a b=k2):=by show _=_;unfold pairT;rw [if_neg hsm]
       have f0:=hbz.frozen 0
       have z0:w5.cell? ⟨bb,0,none⟩=some (.int .i64 0):=hbz.cell (i:=0) rfl
       have f1:=hbz.frozen 1
       have z1:w5.cell? ⟨bb,1,none⟩=some (.int .i64 0):=hbz.cell (i:=1) rfl
       have f2:=hbz.frozen 2
       have z2:w5.cell? ⟨bb,2,none⟩=some (.int .i64 0):=hbz.cell (i:=2) rfl
       have f3:=hbz.frozen 3
       have z3:w5.cell? ⟨bb,3,none⟩=some (.int .i64 0):=hbz.cell (i:=3) rfl
       have f4:=hbz.frozen 4
       have z4:w5.cell? ⟨bb,4,none⟩=some (.int .i64 0):=hbz.cell (i:=4) rfl
       have f5:=hbz.frozen 5
       have z5:w5.cell? ⟨bb,5,none⟩=some (.int .u64 0):=hbz.cell (i:=5) rfl
       have f6:=hbz.frozen 6
       have z6:w5.cell? ⟨bb,6,none⟩=some (.int .i64 0):=hbz.cell (i:=6) rfl
       have f7:=hbz.frozen 7
       have z7:w5.cell? ⟨bb,7,none⟩=some (.int .u16 0):=hbz.cell (i:=7) rfl
       refine rd 11 fun K hK=>?_
       (try simp only [gA,gB,gC]);go_simp
       refine wo hK True.intro fun hHeld4=>?_
       clear hK K
       refine tk 12 ?_
       refine wpAnyH_done (by kernel_rfl) ?_ _
       refine NoPanic.normal ?_
       have HC6:Hid (CoK w0 ((((((((w5.setCell ⟨bb,0,none⟩ (.int .i64 0)).setCell ⟨bb,1,none⟩ (.int .i64 0)).setCell ⟨bb,2,none⟩ (.int .i64 0)).setCell ⟨bb,3,none⟩ (.int .i64 0)).setCell ⟨bb,4,none⟩ (.int .i64 0)).setCell ⟨bb,5,none⟩ (.int .u64 0)).setCell ⟨bb,6,none⟩ (.int .i64 0)).setCell ⟨bb,7,none⟩ (.int .u16 0)) Cs (.slice ka k2.length kc) k2):=CoK.eight (HCK.out.to HV4.out) hbb0 (fun e=>by have:=own_lt HCK.out.own bb e.symm;omega)
       clear f0 z0 f1 z1 f2 z2 f3 z3 f4 z4 f5 z5 f6 z6 f7 z7 hbz HCK HV4 JN HCR
       generalize ((((((((w5.setCell ⟨bb,0,none⟩ (.int .i64 0)).setCell ⟨bb,1,none⟩ (.int .i64 0)).setCell ⟨bb,2,none⟩ (.int .i64 0)).setCell ⟨bb,3,none⟩ (.int .i64 0)).setCell ⟨bb,4,none⟩ (.int .i64 0)).setCell ⟨bb,5,none⟩ (.int .u64 0)).setCell ⟨bb,6,none⟩ (.int .i64 0)).setCell ⟨bb,7,none⟩ (.int .u16 0))=w6 at *
       go_wp2
       go_roundw
       case measure=>simp [intOf];omega
       case rel=>exact ⟨j+1,k2,by omega,by simp,by show _=_;rw [HNJ.out,HNP.out],HC6.out⟩
    ·have hge:¬ (j:Int)<(nY:Int):=by omega
     have HFO:Hid ((X.take (i+1)).foldl (fun kept a=>rowT KK bi bj kept a Y) []=k2):=by
      show _=_
      rw [HNX.out,HK2.out,List.take_of_length_le (by have:=EnY.out;omega)]
     clear HK2 HNX
     go_wp2
     go_roundw
     case measure=>simp [intOf];omega
     case rel=>exact ⟨i+1,k2,by omega,by simp,HFO.out.symm,HCK.out⟩
  ·have hge:¬ (i:Int)<(nX:Int):=by omega
   have HFO:Hid (ks=cutsT KK bi bj X Y):=by
    show _=_
    rw [HKS.out,List.take_of_length_le (by have:=EnX.out;omega)];rfl
   have HOF:Hid (wr.ownsRow w.heap.size 114 8 u5 (cutsT KK bi bj X Y).length (flC (cutsT KK bi bj X Y))):=by
    rw [←HFO.out];exact own_mono HCK.out.own HB0.out.size
   have HBF:=hidden (HW0.out wr HCK.out.bw)
   clear HKS HFO HCK
   go_wp2
   go_ret
   exact ⟨u5,rfl,HOF.out,HBF.out⟩
end Go.Proofs.Ytlaljeobdddegaa
