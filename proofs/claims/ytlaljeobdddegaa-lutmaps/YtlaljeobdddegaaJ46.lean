import Derived.Test.YtlaljeobdddegaaJ45
namespace Go.Proofs.Ytlaljeobdddegaa
open Go.RowKit Mp
def sgA (F:Nat) (k:Nat) (l:Nat):Int:=if l<2 then (l:Int) else if l % 2=0∧l / 2<k∧l / 2<F then 1+((l / 2:Nat):Int) else -1
def wdA (es:List Int) (l:Nat):Bool:=decide ((l:Int) ∈ es)
theorem sgA_next {F k:Nat} (h1:1≤k) (h:k<F):upd (sgA F k) (2*k) (1+(k:Int))=sgA F (k+1):=by
 funext l
 unfold upd sgA
 by_cases e:l=2*k
 ·subst e
  rw [if_pos rfl,if_neg (by omega),if_pos (by omega)]
  omega
 ·rw [if_neg e]
  by_cases h2:l<2
  ·rw [if_pos h2,if_pos h2]
  ·rw [if_neg h2,if_neg h2]
   by_cases h3:l % 2=0∧l / 2<k∧l / 2<F
   ·rw [if_pos h3,if_pos (by omega)]
   ·rw [if_neg h3,if_neg (by omega)]
theorem wdA_next {es:List Int} {k:Nat} {x:Int} (hx:es[k]?=some x) {p:Nat} (hp:x=(p:Int)):upd (wdA (es.take k)) p true=wdA (es.take (k+1)):=by
 funext l
 unfold upd wdA
 rw [take_next _ _ _ hx]
 by_cases e:l=p
 ·subst e
  rw [if_pos rfl,hp]
  simp
 ·rw [if_neg e]
  have:(l:Int)≠x:=by omega
  simp [this]
def sgK (k:Nat) (l:Nat):Int:=if l<k then -1 else 0
theorem sgK_next (k:Nat):upd (sgK k) k (-1)=sgK (k+1):=by
 funext l
 unfold upd sgK
 by_cases e:l=k
 ·rw [if_pos e,if_pos (by omega)]
 ·rw [if_neg e]
  by_cases h:l<k
  ·rw [if_pos h,if_pos (by omega)]
  ·rw [if_neg h,if_neg (by omega)]
theorem tab_same {M:Nat} {f g:Nat→Value} (h:∀ l,l<M→f l=g l):tabL M f=tabL M g:=by
 apply List.ext_getElem?
 intro i
 by_cases hi:i<M
 ·rw [tabL_get hi,tabL_get hi,h i hi]
 ·rw [List.getElem?_eq_none (by rw [tabL_len];omega),List.getElem?_eq_none (by rw [tabL_len];omega)]
theorem LyAt.sgs {C:Nat} {w:World} {D:LyS} {N:NetL} {sg sg2:Nat→Int} {wd:Nat→Bool} {iv tv nv ov:Value} (h:LyAt C w D N sg wd iv tv nv ov) (hs:∀ l,l<D.M→sg l=sg2 l):LyAt C w D N sg2 wd iv tv nv ov:=by
 have e:tabL D.M (fun l=>Value.int .i64 (sg2 l))=tabL D.M (fun l=>Value.int .i64 (sg l)):=tab_same (fun l hl=>by rw [hs l hl])
 exact ⟨h.bk,by rw [e];exact h.sg,h.wd,h.oi,h.ot,h.on,h.oo,h.ti,h.f1,h.f2,h.f3,h.f4,h.f5,h.f6,h.lt,h.le,h.ne⟩
theorem LyAt.start {w:World} {lb sb qb M:Nat} {ni:Int} (h1:Blk w lb 72 #[.int .i64 ni,.slice none 0 0,.slice none 0 0,.slice none 0 0,.slice none 0 0,.slice (some ⟨sb,0,none⟩) M M,.slice (some ⟨qb,0,none⟩) M M]) (h2:Blk w sb 3 (tabL M fun _=>.int .i64 0).toArray) (h3:Blk w qb 4 (tabL M fun _=>.bool false).toArray) (h4:lb≠sb∧lb≠qb∧sb≠qb):LyAt w.heap.size w ⟨lb,sb,qb,M⟩ ⟨ni,[],[],[],[]⟩ (fun _=>0) (fun _=>false) (.slice none 0 0) (.slice none 0 0) (.slice none 0 0) (.slice none 0 0) :=
 ⟨h1,h2,h3,own_nil _ _ _ _,own_nil _ _ _ _,own_nil _ _ _ _,own_nil _ _ _ _,fun d hd=>absurd hd (by simp),FaV.nil _,FaV.nil _,FaV.nil _,FaV.nil _,FaV.nil _,FaV.nil _,⟨h1.lt,h2.lt,h3.lt⟩,Nat.le_refl _,h4⟩
set_option maxRecDepth 100000 in
set_option maxHeartbeats 8000000 in
theorem newLayout_any (B:Nat) (w:World) (gb:Nat) (S:GrS) (G:GrD) (ni n:Nat) (hF:FineG G ni n) (h:GIn B w gb S G) (hnil:S.a3=none→S.c3=0) :
  Calls Try.prog 34 #[.pointer (some ⟨gb,0,none⟩)] w fun e w'=>∃ (D:LyS) (C:Nat) (iv:Value),e = .returned (.pointer (some ⟨D.lb,0,none⟩))∧(w.heap.size≤D.lb∧w.heap.size≤D.sb∧w.heap.size≤D.qb)∧D.M=2*n∧Hid (LyAt C w' D ⟨G.ins,G.lats.map LatD.init,[],[],[]⟩ (sgA (firstN G) (firstN G)) (wdA (endL G)) iv (.slice none 0 0) (.slice none 0 0) (.slice none 0 0))∧Hid (Bl w w'):=by
 have HG:Hid (∀ v:World,Bl w v→GIn B v gb S G):=fun v hv=>h.to (hv.mono h.le)
 have hgw:gb<w.heap.size:=Nat.lt_of_lt_of_le h.lt h.le
 have hN6:n≤60000:=hF.le
 have hall:=hF.all
 have hins:=hF.ins
 have hfi:=hF.first
 have hll:=hF.ll
 have HFG:Hid (∀ v:World,Bl w v→Calls Try.prog 35 #[.pointer (some ⟨gb,0,none⟩)] v fun e w'=>e = .returned (.int .i64 (firstN G:Nat))∧Bl v w'):=fun v hv=>first_any v gb S G ni n hF (HG.out v hv).bx
 have HES:Hid (∀ u:World,Bl w u→Calls Try.prog 41 #[.pointer (some ⟨gb,0,none⟩)] u fun e w'=>∃ v,e = .returned v∧Hid (w'.ownsRow u.heap.size 3 1 v (endL G).length ((endL G).map zV))∧Hid (Bl u w')):=fun u hu=>ends_any B u gb S G ni n hF (HG.out u hu) hnil
 have HEN:Hid (∀ x,x ∈ endL G→0≤x∧x<2*(n:Int)):=fun x hx=>by
  rcases List.mem_append.1 hx with hx | hx
  ·exact hF.outs x hx
  ·obtain ⟨z,hz,rfl⟩:=List.mem_map.1 hx
   exact hF.lats z hz
 have hel:(endL G).length≤70000:=by
  unfold endL
  rw [List.length_append,List.length_map]
  have:=hF.lo;have:=hF.ll;omega
 obtain ⟨a1,Ea1⟩:=exh S.a1
 obtain ⟨na,Ena⟩:=exh G.ands.length
 obtain ⟨nl,Enl⟩:=exh G.lats.length
 have HRW:Hid (∀ v:World,Bl w v→∀ (k:Nat) (d:LatD),G.lats[k]?=some d→∃ b o,a1=some ⟨b,o,none⟩∧b<w.heap.size∧v.cell? ⟨b,o+k*2,none⟩=some (.int .i64 d.next)∧v.cell? ⟨b,o+k*2+1,none⟩=some (.bool d.init)):=fun v hv k d hd=>by
  obtain ⟨b,o,h1,h2,h3⟩:=(HG.out v hv).at_.l.el hd
  exact ⟨b,o,Ea1.out.trans h1,Nat.lt_of_lt_of_le h2 h.le,h3 0 _ rfl,h3 1 _ rfl⟩
 have HCG:Hid (∀ v:World,Bl w v→v.cell? ⟨gb,0,none⟩=some (.int .i64 (ni:Int))∧v.cell? ⟨gb,1,none⟩=some (.slice a1 nl S.c1)∧v.cell? ⟨gb,2,none⟩=some (.slice S.a2 na S.c2)):=fun v hv=>by
  have hx:=(HG.out v hv).bx
  have q0:=hx.c0
  have q1:=hx.c1
  have q2:=hx.c2
  rw [hins] at q0
  rw [←Enl.out,←Ea1.out] at q1
  rw [←Ena.out] at q2
  exact ⟨q0,q1,q2⟩
 obtain ⟨F,EF⟩:=exh (firstN G)
 rw [←EF.out] at HFG hall
 rw [←EF.out]
 obtain ⟨es,Ees⟩:=exh (endL G)
 rw [←Ees.out] at HES HEN hel
 rw [←Ees.out]
 rw [←Ena.out] at hall
 rw [←Enl.out] at hll
 have hF1:1≤F:=by rw [EF.out];unfold firstN;omega
 have HNI:Hid (G.ins=(ni:Int)):=hins
 have HQ0:Hid (Bl w w.drew):=Below.drew (Below.refl _ _)
 obtain ⟨c0,c1,c2⟩:=HCG.out w (Below.refl _ _)
 clear h hF hnil hins hfi
 go_enter Try.func34,Try.ntmps34
 go_upto_region 1 with fail
 refine wp_region_noPanic ?_
 refine wp_region_held_drew (S:=fun wz=>wz.cell? ⟨gb,2,none⟩=some (.slice S.a2 na S.c2)) (by kernel_rfl) (by exact c2) (fun hHeld=>?_)
 refine tk 0 ?_
 refine tk 2 ?_
 refine tk 3 ?_
 refine tk 4 ?_
 refine tk 5 ?_
 refine tk 6 ?_
 refine rd 1 fun K hK=>?_
 (try simp only [gA,gB,gC]);go_simp
 go_at_call 35
 refine (HFG.out _ HQ0.out).mono ?_
 rintro e w1 ⟨rfl,hb1⟩
 have HB1:Hid (Bl w w1):=Bl.tr HQ0.out hb1
 obtain ⟨M,EM⟩:=exh (2*n)
 have e1:IntKind.i64.wrap ((F:Int)+(na:Int))=(n:Int):=by rw [wrapI _ (by omega) (by omega)];omega
 have e2:IntKind.i64.wrap (2*(n:Int))=(M:Int):=by rw [wrapI _ (by omega) (by omega)];have:=EM.out;omega
 have hM2:M≤120000:=by have:=EM.out;omega
 obtain ⟨d0,d1,d2⟩:=HCG.out w1 HB1.out
 clear hb1 c0 c1 c2
 go_wp2_with fail
 refine wo hK d2 fun _=>?_
 clear hK K
 refine tk 7 ?_
 refine tk 8 ?_
 refine tk 9 ?_
 refine wpAnyH_done (by kernel_rfl) ?_ _
 refine NoPanic.normal ?_
 clear d2 d1
 have HQ1:Hid (Bl w w1.drew):=Below.drew HB1.out
 have HD0:Hid (∀ v:World,Bl w v→v.cell? ⟨gb,0,none⟩=some (.int .i64 (ni:Int))):=fun v hv=>(HCG.out v hv).1
 go_wp2_with fail
 refine wp_region_noPanic ?_
 refine wp_region_held_drew (S:=fun wz=>wz.cell? ⟨gb,0,none⟩=some (.int .i64 (ni:Int))) (by kernel_rfl) (by exact d0) (fun hHeld=>?_)
 refine tk 0 ?_
 refine tk 1 ?_
 refine tk 2 ?_
 refine tk 3 ?_
 refine tk 4 ?_
 refine tk 5 ?_
 refine tk 7 ?_
 refine wpAnyH_ready (rs:=[6,8]) (by kernel_rfl) (by simp) ?_
 refine AllReadyH.cons (o:=_) rfl (fun K hK=>?cA) (AllReadyH.cons (o:=_) rfl (fun K hK=>?cB) AllReadyH.nil)
 case' cA =>
  obtain ⟨x3,hr3,hk3,hb3⟩:=newI (w:=w1.drew) (cc:=M) (by omega)
  obtain ⟨sb,Esb⟩:=exh w1.drew.heap.size
  rw [←Esb.out] at hr3 hk3
  have HB3:Hid (Bl w x3):=Bl.tr HQ1.out hb3
  obtain ⟨x4,hr4,hk4,hb4⟩:=newB (w:=x3) (cc:=M) (by omega)
  obtain ⟨qb,Eqb⟩:=exh x3.heap.size
  rw [←Eqb.out] at hr4 hk4
  have hk3':=hk3.below hb4
  have HB4:Hid (Bl w x4):=Bl.tr HB3.out hb4
  have hsq:sb≠qb:=fun e=>by have:=hk3.lt;have:=Eqb.out;omega
  have hsw:w.heap.size≤sb:=by rw [Esb.out];exact HQ1.out.size
  have hqw:w.heap.size≤qb:=by rw [Eqb.out];exact HB3.out.size
  have HKS:=hidden hk3'
  have HKQ:=hidden hk4
  clear hb3 hb4 hk3 hk3' hk4
  (try simp only [gA,gB,gC]);go_simp
  refine wo hK (HD0.out x3 HB3.out) fun _=>?_
  clear hK K hr3
  refine rd 8 fun K hK=>?_
  (try simp only [gA,gB,gC]);go_simp
  refine wo hK (HD0.out x4 HB4.out) fun _=>?_
  clear hK K hr4 HB3 Esb Eqb
 case' cB =>
  obtain ⟨x3,hr3,hk3,hb3⟩:=newB (w:=w1.drew) (cc:=M) (by omega)
  obtain ⟨qb,Eqb⟩:=exh w1.drew.heap.size
  rw [←Eqb.out] at hr3 hk3
  have HB3:Hid (Bl w x3):=Bl.tr HQ1.out hb3
  obtain ⟨x4,hr4,hk4,hb4⟩:=newI (w:=x3) (cc:=M) (by omega)
  obtain ⟨sb,Esb⟩:=exh x3.heap.size
  rw [←Esb.out] at hr4 hk4
  have hk3':=hk3.below hb4
  have HB4:Hid (Bl w x4):=Bl.tr HB3.out hb4
  have hsq:sb≠qb:=fun e=>by have:=hk3.lt;have:=Esb.out;omega
  have hqw:w.heap.size≤qb:=by rw [Eqb.out];exact HQ1.out.size
  have hsw:w.heap.size≤sb:=by rw [Esb.out];exact HB3.out.size
  have HKS:=hidden hk4
  have HKQ:=hidden hk3'
  clear hb3 hb4 hk3 hk3' hk4
  (try simp only [gA,gB,gC]);go_simp
  refine wo hK (HD0.out x3 HB3.out) fun _=>?_
  clear hK K hr3
  refine rd 6 fun K hK=>?_
  (try simp only [gA,gB,gC]);go_simp
  refine wo hK (HD0.out x4 HB4.out) fun _=>?_
  clear hK K hr4 HB3 Esb Eqb
 all_goals
  refine tk 9 ?_
  refine rd 10 fun K hK=>?_
  (try simp only [gA,gB,gC]);go_simp
  obtain ⟨lb,Elb⟩:=exh x4.heap.size
  have hal:Below x4.heap.size x4 (x4.alloc (.cells #[.int .i64 (ni:Int),.slice none 0 0,.slice none 0 0,.slice none 0 0,.slice none 0 0,.slice (some ⟨sb,0,none⟩) M M,.slice (some ⟨qb,0,none⟩) M M] 72)):=(Below.refl _ _).alloc (Nat.le_refl _) _
  have hbk:=Blk.new x4 72 #[.int .i64 (ni:Int),.slice none 0 0,.slice none 0 0,.slice none 0 0,.slice none 0 0,.slice (some ⟨sb,0,none⟩) M M,.slice (some ⟨qb,0,none⟩) M M]
  rw [←Elb.out] at hbk
  have hks:=HKS.out.below hal
  have hkq:=HKQ.out.below hal
  have hls:lb≠sb:=fun e=>by have:=HKS.out.lt;have:=Elb.out;omega
  have hlq:lb≠qb:=fun e=>by have:=HKQ.out.lt;have:=Elb.out;omega
  have hlw:w.heap.size≤lb:=by rw [Elb.out];exact HB4.out.size
  have HB5:Hid (Bl w (x4.alloc (.cells #[.int .i64 (ni:Int),.slice none 0 0,.slice none 0 0,.slice none 0 0,.slice none 0 0,.slice (some ⟨sb,0,none⟩) M M,.slice (some ⟨qb,0,none⟩) M M] 72))):=Bl.tr HB4.out hal
  rw [←Elb.out]
  clear hal
  generalize x4.alloc (.cells #[.int .i64 (ni:Int),.slice none 0 0,.slice none 0 0,.slice none 0 0,.slice none 0 0,.slice (some ⟨sb,0,none⟩) M M,.slice (some ⟨qb,0,none⟩) M M] 72)=x5 at *
  refine wo hK (HD0.out x5 HB5.out) fun _=>?_
  clear hK K
  refine tk 11 ?_
  refine wpAnyH_done (by kernel_rfl) ?_ _
  refine NoPanic.normal ?_
  have HLY5:=hidden (LyAt.start hbk hks hkq ⟨hls,hlq,hsq⟩)
  obtain ⟨C,EC⟩:=exh x5.heap.size
  rw [←EC.out] at HLY5
  have hCw:w.heap.size≤C:=by rw [EC.out];exact HB5.out.size
  obtain ⟨D,ED⟩:=exh (⟨lb,sb,qb,M⟩:LyS)
  rw [←ED.out] at HLY5
  have HLB:Hid (D.lb=lb∧D.sb=sb∧D.qb=qb∧D.M=M):=by rw [ED.out];exact ⟨rfl,rfl,rfl,rfl⟩
  have c1:=(HCG.out x5 HB5.out).2.1
  clear hbk hks hkq HKS HKQ HB4 HQ1 d0 hHeld Elb EC HB1
  go_wp2_with fail
  clear c1
  go_loopw [6,36] (fun _ i' w'=>∃ (k:Nat) (iv:Value),k≤nl∧i' = .int .i64 (k:Int)∧Hid (LyAt C w' D ⟨(ni:Int),(G.lats.take k).map LatD.init,[],[],[]⟩ (fun _=>0) (fun _=>false) iv (.slice none 0 0) (.slice none 0 0) (.slice none 0 0))∧Hid (Bl w w')) (fun _ i' _=>nl - (intOf i').toNat)
  case atStart=>exact ⟨0,_,Nat.zero_le _,rfl,HLY5.out,HB5.out⟩
  case round =>
   clear HLY5 HB5
   obtain ⟨k,iv,hk,rfl,HLY,HB⟩:=hrel
   by_cases hlt:k<nl
   ·have hltI:(k:Int)<(nl:Int):=by omega
    obtain ⟨d,hd⟩:=getElem_lt (show k<G.lats.length by rw [←Enl.out];exact hlt)
    obtain ⟨b,o,ea,hbw,cx,cy⟩:=HRW.out wr HB.out k d hd
    have e3:IntKind.i64.wrap ((k:Int)+1)=(k:Int)+1:=wrapI _ (by omega) (by omega)
    have HNX:Hid ((G.lats.take (k+1)).map LatD.init=(G.lats.take k).map LatD.init++[d.init]):=by
     show _=_
     rw [take_next _ _ _ hd,List.map_append];rfl
    have hkl:((G.lats.take k).map LatD.init).length=k:=by
     rw [List.length_map,List.length_take];have:=Enl.out;omega
    obtain ⟨xb,Exb⟩:=exh wr.heap.size
    obtain ⟨w2,Ew2⟩:=exh (wr.alloc (.cells #[.int .i64 d.next,.bool d.init] 45))
    have HB2:Hid (Bl wr w2):=by rw [Ew2.out];exact (Below.refl _ _).alloc (Nat.le_refl _) _
    have HK2:Hid (Blk w2 xb 45 #[.int .i64 d.next,.bool d.init]):=by rw [Ew2.out,Exb.out];exact Blk.new _ _ _
    have HLY2:=hidden (HLY.out.to HB2.out)
    have HBW:Hid (Bl w w2):=Bl.tr HB.out HB2.out
    have hxv:some xb≠iv.ownBlock:=fun e=>by have:=own_lt HLY.out.oi xb e.symm;have:=Exb.out;omega
    have hxl:xb≠lb:=fun e=>by have:=HLY.out.lt.1;have:=HLY.out.le;have:=Exb.out;have:=HLB.out.1;omega
    obtain ⟨di,Edi⟩:=exh d.init
    rw [←Edi.out] at HK2
    have xc1:=HK2.out.cell (i:=1) rfl
    have HX1:Hid (∀ x:World,Bl w2 x→x.cell? ⟨xb,1,none⟩=some (.bool di)):=fun x hx=>(HK2.out.below hx).cell (i:=1) rfl
    have HZ:Hid (∀ x:World,Bl w2 x→x.cell? ⟨lb,1,none⟩=some iv):=fun x hx=>by
     have:=(HLY2.out.to hx).bk.cell (i:=1) rfl
     rw [HLB.out.1] at this
     exact this
    have HOW:Hid (∀ x:World,Bl w2 x→x.ownsRow C 4 1 iv k (((G.lats.take k).map LatD.init).map Value.bool)):=fun x hx=>by
     have:=(HLY2.out.to hx).oi
     rw [hkl] at this
     exact this
    have HCW:Hid (∀ x:World,Bl w2 x→C≤x.heap.size):=fun x hx=>(HLY2.out.to hx).le
    have HFI:Hid (∀ (xc w5:World) (g5 c5:Nat),Bl w2 xc→w5.ownsRow C 4 1 (.slice (some ⟨g5,0,none⟩) (k+1) c5) (k+1) (((G.lats.take k).map LatD.init).map Value.bool++[.bool di])→xc.grownBy w5 iv.ownBlock→(iv.ownBlock=some g5∨g5=xc.heap.size)→w5.cell? ⟨xb,1,none⟩=some (.bool di)∧w5.cell? ⟨lb,1,none⟩=some iv∧w5.frozen? ⟨lb,1,none⟩=false∧(w5.setCell ⟨lb,1,none⟩ (.slice (some ⟨g5,0,none⟩) (k+1) c5)).cell? ⟨xb,1,none⟩=some (.bool di)∧Hid (LyAt C (w5.setCell ⟨lb,1,none⟩ (.slice (some ⟨g5,0,none⟩) (k+1) c5)) D ⟨(ni:Int),(G.lats.take (k+1)).map LatD.init,[],[],[]⟩ (fun _=>0) (fun _=>false) (.slice (some ⟨g5,0,none⟩) (k+1) c5) (.slice none 0 0) (.slice none 0 0) (.slice none 0 0))∧Hid (Bl w (w5.setCell ⟨lb,1,none⟩ (.slice (some ⟨g5,0,none⟩) (k+1) c5)))):=fun xc w5 g5 c5 hx hown hgrow hplace=>by
     obtain ⟨q1,q2,q3⟩:=HLY2.out.iniB (C0:=w.heap.size) hx hgrow (.slice (some ⟨g5,0,none⟩) (k+1) c5) (by rw [HLB.out.1];exact hlw)
     have hxx:xb<xc.heap.size:=Nat.lt_of_lt_of_le HK2.out.lt hx.size
     obtain ⟨q4,q5⟩:=q3 xb hxx hxv (by rw [HLB.out.1];exact hxl)
     have hkx:=HK2.out.below hx
     have q6:Blk w5 xb 45 #[.int .i64 d.next,.bool di]:=q4.trans hkx
     have hnew:=HLY2.out.ini hx (x:=di) hgrow (g:=g5) (cap:=c5) (by show w5.ownsRow C 4 1 (.slice (some ⟨g5,0,none⟩) (((G.lats.take k).map LatD.init).length+1) c5) (((G.lats.take k).map LatD.init).length+1) _;rw [hkl];exact hown) hplace
     rw [HLB.out.1] at q1 q2 q5
     rw [Edi.out] at hnew
     have q7:Blk (w5.setCell ⟨lb,1,none⟩ (.slice (some ⟨g5,0,none⟩) (k+1) c5)) xb 45 #[.int .i64 d.next,.bool di]:=q5.trans hkx
     refine ⟨q6.cell (i:=1) rfl,q2.1,q2.2,q7.cell (i:=1) rfl,?_,(HBW.out.trans q1)⟩
     have hnew2:LyAt C (w5.setCell ⟨D.lb,1,none⟩ (.slice (some ⟨g5,0,none⟩) (((G.lats.take k).map LatD.init).length+1) c5)) D ⟨(ni:Int),(G.lats.take k).map LatD.init++[d.init],[],[],[]⟩ (fun _=>0) (fun _=>false) (.slice (some ⟨g5,0,none⟩) (((G.lats.take k).map LatD.init).length+1) c5) (.slice none 0 0) (.slice none 0 0) (.slice none 0 0):=hnew
     rw [←HNX.out,hkl,HLB.out.1] at hnew2
     exact hnew2
    have hkb:k≤900000000000:=by omega
    subst ea
    rw [show d.init=di from Edi.out.symm] at cy Ew2
    clear hd HLY HB HB2 HLY2 HK2 hxv hxl HNX hkl
    go_upto_region 6 with fail
    rw [←Exb.out,←Ew2.out]
    clear cx cy
    have HQ2:Hid (Bl w2 w2.drew):=Below.drew (Below.refl _ _)
    refine wp_region_noPanic ?_
    refine wp_region_held_drew (S:=fun wz=>wz.cell? ⟨xb,1,none⟩=some (.bool di)) (by kernel_rfl) (by exact xc1) (fun hHeld=>?_)
    refine tk 0 ?_
    refine tk 1 ?_
    refine tk 2 ?_
    refine tk 3 ?_
    refine tk 4 ?_
    refine tk 6 ?_
    refine tk 7 ?_
    have zz:w2.drew.cell? ⟨lb,1,none⟩=some iv:=HZ.out _ HQ2.out
    refine wpAnyH_ready (rs:=[5,8]) (by kernel_rfl) (by simp) ?_
    refine AllReadyH.cons (o:=_) rfl (fun K hK=>?_) (AllReadyH.cons (o:=_) rfl (fun K hK=>?_) AllReadyH.nil)
    (try simp only [gA,gB,gC]);go_simp
    refine wo hK (HX1.out _ HQ2.out) fun _=>?_
    clear hK K zz
    refine rd 8 fun K hK=>?_
    (try simp only [gA,gB,gC]);go_simp
    obtain ⟨yb,Eyb⟩:=exh w2.heap.size
    rw [←Eyb.out]
    have HKc:Hid ((w2.alloc (.cells #[.bool di] 4)).drew.cell? ⟨yb,0,none⟩=some (.bool di)):=by rw [Eyb.out];exact (Blk.new w2 _ _).drew.cell (i:=0) rfl
    have HQc:Hid (Bl w2 (w2.alloc (.cells #[.bool di] 4)).drew):=Below.drew ((Below.refl _ _).alloc (Nat.le_refl _) _)
    generalize (w2.alloc (.cells #[.bool di] 4)).drew=xc at *
    refine wo hK (HX1.out _ HQc.out) fun _=>?_
    clear hK K Eyb
    rotate_left
    clear zz
    (try simp only [gA,gB,gC]);go_simp
    obtain ⟨yb,Eyb⟩:=exh w2.heap.size
    rw [←Eyb.out]
    have HKc:Hid ((w2.alloc (.cells #[.bool di] 4)).drew.cell? ⟨yb,0,none⟩=some (.bool di)):=by rw [Eyb.out];exact (Blk.new w2 _ _).drew.cell (i:=0) rfl
    have HQc:Hid (Bl w2 (w2.alloc (.cells #[.bool di] 4)).drew):=Below.drew ((Below.refl _ _).alloc (Nat.le_refl _) _)
    generalize (w2.alloc (.cells #[.bool di] 4)).drew=xc at *
    refine wo hK (HX1.out _ HQc.out) fun _=>?_
    clear hK K Eyb
    have zz:xc.cell? ⟨lb,1,none⟩=some iv:=HZ.out _ HQc.out
    refine rd 5 fun K hK=>?_
    (try simp only [gA,gB,gC]);go_simp
    refine wo hK (HX1.out _ HQc.out) fun _=>?_
    clear hK K zz
    all_goals
     refine rd 9 fun K hK=>?_
     refine step_bool _ rfl (.tmp 45) (.tmp 48) rfl C iv k _ rfl (HOW.out _ HQc.out) ⟨yb,0,none⟩ di rfl HKc.out hkb (HCW.out _ HQc.out) ?_
     intro g5 c5 w5 hown hgrow hplace
     obtain ⟨y0,y1,y2,y3,HL6,HB6⟩:=HFI.out _ w5 g5 c5 HQc.out hown hgrow hplace
     clear hown hgrow hplace HFI HOW HZ HX1 HCW
     refine wo hK y0 fun _=>?_
     clear hK K
     refine tk 10 ?_
     refine tk 11 ?_
     refine tk 12 ?_
     refine rd 13 fun K hK=>?_
     (try simp only [gA,gB,gC]);go_simp
     refine wo hK y3 fun _=>?_
     clear hK K
     refine wpAnyH_done (by kernel_rfl) ?_ _
     refine NoPanic.normal ?_
     clear y0 y1 y2 y3
     go_wp2
     go_roundw
     case measure=>simp [intOf];omega
     case rel=>exact ⟨k+1,_,by omega,by simp,HL6.out,HB6.out⟩
   ·have hge:¬ (k:Int)<(nl:Int):=by omega
    have HLYn:Hid (LyAt C wr D ⟨G.ins,G.lats.map LatD.init,[],[],[]⟩ (sgK 0) (fun _=>false) iv (.slice none 0 0) (.slice none 0 0) (.slice none 0 0)):=by
     have:=HLY.out
     rw [List.take_of_length_le (by have:=Enl.out;omega),←HNI.out] at this
     exact this
    have HCS:Hid (∀ (x:World) (sg:Nat→Int) (wd:Nat→Bool),LyAt C x D ⟨G.ins,G.lats.map LatD.init,[],[],[]⟩ sg wd iv (.slice none 0 0) (.slice none 0 0) (.slice none 0 0)→(x.cell? ⟨lb,5,none⟩=some (.slice (some ⟨sb,0,none⟩) M M)∧x.cell? ⟨lb,6,none⟩=some (.slice (some ⟨qb,0,none⟩) M M))∧(∀ l,l<M→x.cell? ⟨sb,l,none⟩=some (.int .i64 (sg l))∧x.frozen? ⟨sb,l,none⟩=false)∧(∀ l,l<M→x.cell? ⟨qb,l,none⟩=some (.bool (wd l))∧x.frozen? ⟨qb,l,none⟩=false)):=fun x sg wd hx=>by
     have hb:=hx.bk
     have hs:=hx.sg
     have hq:=hx.wd
     rw [HLB.out.1,HLB.out.2.1,HLB.out.2.2.1,HLB.out.2.2.2] at hb
     rw [HLB.out.2.1,HLB.out.2.2.2] at hs
     rw [HLB.out.2.2.1,HLB.out.2.2.2] at hq
     exact ⟨⟨hb.cell (i:=5) rfl,hb.cell (i:=6) rfl⟩,fun l hl=>⟨hs.cell (tab_get hl),hs.frozen l⟩,fun l hl=>⟨hq.cell (tab_get hl),hq.frozen l⟩⟩
    have HSS:Hid (∀ (x:World) (sg:Nat→Int) (wd:Nat→Bool) (l:Nat) (z:Int),LyAt C x D ⟨G.ins,G.lats.map LatD.init,[],[],[]⟩ sg wd iv (.slice none 0 0) (.slice none 0 0) (.slice none 0 0)→Bl w x→LyAt C (x.setCell ⟨sb,l,none⟩ (.int .i64 z)) D ⟨G.ins,G.lats.map LatD.init,[],[],[]⟩ (upd sg l z) wd iv (.slice none 0 0) (.slice none 0 0) (.slice none 0 0)∧Bl w (x.setCell ⟨sb,l,none⟩ (.int .i64 z))):=fun x sg wd l z hx hb=>by
     have h1:=hx.sig l z
     rw [HLB.out.2.1] at h1
     exact ⟨h1,hb.trans ((But.set sb l x _).below hsw hb.size)⟩
    have HWS:Hid (∀ (x:World) (sg:Nat→Int) (wd:Nat→Bool) (l:Nat),LyAt C x D ⟨G.ins,G.lats.map LatD.init,[],[],[]⟩ sg wd iv (.slice none 0 0) (.slice none 0 0) (.slice none 0 0)→Bl w x→LyAt C (x.setCell ⟨qb,l,none⟩ (.bool true)) D ⟨G.ins,G.lats.map LatD.init,[],[],[]⟩ sg (upd wd l true) iv (.slice none 0 0) (.slice none 0 0) (.slice none 0 0)∧Bl w (x.setCell ⟨qb,l,none⟩ (.bool true))):=fun x sg wd l hx hb=>by
     have h1:=hx.want l true
     rw [HLB.out.2.2.1] at h1
     exact ⟨h1,hb.trans ((But.set qb l x _).below hqw hb.size)⟩
    obtain ⟨⟨k5,-⟩,-,-⟩:=HCS.out _ _ _ HLYn.out
    clear HLY HRW HCG HD0
    go_wp2_with fail
    clear k5
    go_loopw [7,59] (fun _ i' w'=>∃ k:Nat,k≤M∧i' = .int .i64 (k:Int)∧Hid (LyAt C w' D ⟨G.ins,G.lats.map LatD.init,[],[],[]⟩ (sgK k) (fun _=>false) iv (.slice none 0 0) (.slice none 0 0) (.slice none 0 0))∧Hid (Bl w w')) (fun _ i' _=>M - (intOf i').toNat)
    case atStart=>exact ⟨0,Nat.zero_le _,rfl,HLYn.out,HB.out⟩
    case round =>
     clear HLYn HB
     obtain ⟨j,hj,rfl,HLY,HB⟩:=hrel
     obtain ⟨⟨k5,-⟩,ks,-⟩:=HCS.out _ _ _ HLY.out
     by_cases hlt:j<M
     ·have hltI:(j:Int)<(M:Int):=by omega
      have e3:IntKind.i64.wrap ((j:Int)+1)=(j:Int)+1:=wrapI _ (by omega) (by omega)
      obtain ⟨c5,f5⟩:=ks j hlt
      obtain ⟨h6,hb6⟩:=HSS.out _ _ _ j (-1) HLY.out HB.out
      rw [sgK_next] at h6
      have HL6:=hidden h6
      have HB6:=hidden hb6
      clear h6 hb6 ks HLY HB
      go_wp2
      go_roundw
      case measure=>simp [intOf];omega
      case rel=>exact ⟨j+1,by omega,by simp,HL6.out,HB6.out⟩
     ·have hge2:¬ (j:Int)<(M:Int):=by omega
      obtain ⟨c0,f0⟩:=ks 0 (by have:=EM.out;omega)
      have HM2:2≤M:=by have:=EM.out;omega
      have hs1:=ks 1 (by omega)
      have h1:=HSS.out _ _ _ 0 0 HLY.out HB.out
      obtain ⟨⟨k52,-⟩,ks2,-⟩:=HCS.out _ _ _ h1.1
      obtain ⟨c1,f1⟩:=ks2 1 (by omega)
      have h2:=HSS.out _ _ _ 1 1 h1.1 h1.2
      obtain ⟨⟨k53,-⟩,-,-⟩:=HCS.out _ _ _ h2.1
      have h3:=h2.1.sgs (sg2:=sgA F 1) (fun l hl=>by
       rw [HLB.out.2.2.2] at hl
       unfold upd sgK sgA
       by_cases e1:l=1
       ·rw [if_pos e1,if_pos (by omega)];omega
       ·rw [if_neg e1]
        by_cases e0:l=0
        ·rw [if_pos e0,if_pos (by omega)];omega
        ·rw [if_neg e0,if_pos (by omega),if_neg (by omega),if_neg (by omega)])
      have HL3:=hidden h3
      have HB3:=hidden h2.2
      have hMI:(1:Int)<(M:Int):=by omega
      have hMI0:0<M:=by omega
      clear h1 h2 h3 ks ks2 hs1 HLY HB
      go_wp2_with fail
      refine wp_region_noPanic ?_
      refine wp_region_held_drew (S:=fun wz=>wz.cell? ⟨lb,5,none⟩=some (.slice (some ⟨sb,0,none⟩) M M)) (by kernel_rfl) (by exact k5) (fun hHeld=>?_)
      refine tk 0 ?_
      refine tk 1 ?_
      refine tk 2 ?_
      refine tk 3 ?_
      refine tk 4 ?_
      refine tk 5 ?_
      refine tk 6 ?_
      refine tk 7 ?_
      refine tk 8 ?_
      refine rd 9 fun K hK=>?_
      (try simp only [gA,gB,gC]);go_simp
      refine wo hK k52 fun _=>?_
      clear hK K
      refine tk 10 ?_
      refine rd 11 fun K hK=>?_
      (try simp only [gA,gB,gC]);go_simp
      refine wo hK k53 fun _=>?_
      clear hK K
      refine wpAnyH_done (by kernel_rfl) ?_ _
      refine NoPanic.normal ?_
      clear k5 k52 k53 c0 f0 c1 f1
      generalize World.setCell _ (⟨sb,1,none⟩:Addr) _=x9 at *
      go_wp2_with fail
      go_loopw [8] (fun v' w'=>∃ k:Nat,1≤k∧k≤F∧v' = .int .i64 (k:Int)∧Hid (LyAt C w' D ⟨G.ins,G.lats.map LatD.init,[],[],[]⟩ (sgA F k) (fun _=>false) iv (.slice none 0 0) (.slice none 0 0) (.slice none 0 0))∧Hid (Bl w w')) (fun v' _=>F - (intOf v').toNat)
      case atStart=>exact ⟨1,Nat.le_refl _,hF1,rfl,HL3.out.to (Below.drew (Below.refl _ _)),Below.drew HB3.out⟩
      case round =>
       clear HL3 HB3
       obtain ⟨q,hq1,hqF,rfl,HLY,HB⟩:=hrel
       have FG:=hidden (HFG.out wr HB.out)
       go_wp2_with fail
       go_at_call 35
       refine FG.out.mono ?_
       rintro e wf ⟨rfl,hbf⟩
       have HLF:=hidden (HLY.out.to hbf)
       have HBF:Hid (Bl w wf):=Bl.tr HB.out hbf
       clear hbf HLY HB FG
       obtain ⟨⟨k5,-⟩,ks,-⟩:=HCS.out _ _ _ HLF.out
       by_cases hlt2:q<F
       ·have hltI2:(q:Int)<(F:Int):=by omega
        obtain ⟨m,Em⟩:=exh (2*q)
        have e4:IntKind.i64.wrap (2*(q:Int))=(m:Int):=by rw [wrapI _ (by omega) (by omega)];have:=Em.out;omega
        have e5:IntKind.i64.wrap (1+(q:Int))=1+(q:Int):=wrapI _ (by omega) (by omega)
        have e6:IntKind.i64.wrap ((q:Int)+1)=(q:Int)+1:=wrapI _ (by omega) (by omega)
        have hm:m<M:=by have:=Em.out;have:=EM.out;omega
        have hmI:(m:Int)<(M:Int):=by omega
        obtain ⟨c5,f5⟩:=ks m hm
        obtain ⟨h6,hb6⟩:=HSS.out _ _ _ m (1+(q:Int)) HLF.out HBF.out
        rw [Em.out,sgA_next hq1 hlt2,←Em.out] at h6
        have HL6:=hidden h6
        have HB6:=hidden hb6
        clear h6 hb6 ks HLF HBF
        go_wp2
        go_roundw
        case measure=>simp [intOf];omega
        case rel=>exact ⟨q+1,by omega,by omega,by simp,HL6.out,HB6.out⟩
       ·have hge3:¬ (q:Int)<(F:Int):=by omega
        have hqe:q=F:=by omega
        have HLG:Hid (LyAt C wf D ⟨G.ins,G.lats.map LatD.init,[],[],[]⟩ (sgA F F) (wdA (es.take 0)) iv (.slice none 0 0) (.slice none 0 0) (.slice none 0 0)):=by
         have:=HLF.out
         rw [hqe] at this
         have e:wdA (es.take 0)=fun _=>false:=by
          funext l;unfold wdA;simp
         rw [e];exact this
        have ES:=hidden (HES.out wf HBF.out)
        obtain ⟨H4,EH4⟩:=exh wf.heap.size
        have hqH:qb<H4:=by rw [EH4.out];have:=HLG.out.lt.2.2;have:=HLG.out.le;have:=HLB.out.2.2.1;omega
        obtain ⟨m,Em⟩:=exh es.length
        rw [←EH4.out,←Em.out] at ES
        rw [←Em.out] at hel
        clear HLF ks k5
        go_wp2_with fail
        go_at_call 41
        refine ES.out.mono ?_
        rintro e w7 ⟨v7,rfl,HO7,HB7⟩
        obtain ⟨ka,kc,hv7,-,-⟩:=own_ints HO7.out
        subst hv7
        have HL7:=hidden (HLG.out.to HB7.out)
        have HB8:Hid (Bl w w7):=Bl.tr HBF.out HB7.out
        clear ES HB7 HLG HBF
        go_wp2_with fail
        go_loopw [10,97] (fun _ i' w'=>∃ i:Nat,i≤m∧i' = .int .i64 (i:Int)∧Hid (w'.ownsRow H4 3 1 (.slice ka m kc) m (es.map zV))∧Hid (LyAt C w' D ⟨G.ins,G.lats.map LatD.init,[],[],[]⟩ (sgA F F) (wdA (es.take i)) iv (.slice none 0 0) (.slice none 0 0) (.slice none 0 0))∧Hid (Bl w w')) (fun _ i' _=>m - (intOf i').toNat)
        case atStart=>exact ⟨0,Nat.zero_le _,rfl,HO7.out,HL7.out,HB8.out⟩
        case round =>
         clear HO7 HL7 HB8
         obtain ⟨i,hi,rfl,HO,HLY,HB⟩:=hrel
         obtain ⟨⟨-,k6⟩,-,kq⟩:=HCS.out _ _ _ HLY.out
         by_cases hli:i<m
         ·have hliI:(i:Int)<(m:Int):=by omega
          obtain ⟨x,hx⟩:=getElem_lt (show i<es.length by rw [←Em.out];exact hli)
          obtain ⟨b,o,ea,cx⟩:=own_intc HO.out i x hx
          obtain ⟨hx0,hx1⟩:=HEN.out x (List.mem_of_getElem? hx)
          obtain ⟨p,hp⟩:∃ p:Nat,x=(p:Int):=⟨x.toNat,by omega⟩
          have hpM:p<M:=by have:=EM.out;omega
          have hpI:(p:Int)<(M:Int):=by omega
          obtain ⟨c5,f5⟩:=kq p hpM
          obtain ⟨h6,hb6⟩:=HWS.out _ _ _ p HLY.out HB.out
          rw [wdA_next hx hp] at h6
          have HL6:=hidden h6
          have HB6:=hidden hb6
          have HO6:=hidden (own_kept HO.out (But.set qb p wr (.bool true)).grown (new_ne (own_newB HO.out) hqH))
          have e6:IntKind.i64.wrap ((i:Int)+1)=(i:Int)+1:=wrapI _ (by omega) (by omega)
          subst hp
          subst ea
          clear h6 hb6 kq HLY HB HO hx hx0 hx1
          go_wp2
          go_roundw
          case measure=>simp [intOf];omega
          case rel=>exact ⟨i+1,by omega,by simp,HO6.out,HL6.out,HB6.out⟩
         ·have hge4:¬ (i:Int)<(m:Int):=by omega
          have HLE:Hid (LyAt C wr D ⟨G.ins,G.lats.map LatD.init,[],[],[]⟩ (sgA F F) (wdA es) iv (.slice none 0 0) (.slice none 0 0) (.slice none 0 0)):=by
           have:=HLY.out
           rw [List.take_of_length_le (by have:=Em.out;omega)] at this
           exact this
          have hfin:(D.lb=lb∧D.sb=sb∧D.qb=qb∧D.M=M):=HLB.out
          clear kq k6 HO HLY
          go_wp2
          go_ret
          exact ⟨D,by rw [hfin.1];rfl,⟨by omega,by omega,by omega⟩,by rw [hfin.2.2.2];exact EM.out,⟨C,iv,HLE.out⟩,HB.out⟩
end Go.Proofs.Ytlaljeobdddegaa
