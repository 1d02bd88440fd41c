import Derived.Test.YtlaljeobdddegaaJ41
namespace Go.Proofs.Ytlaljeobdddegaa
open Go.RowKit Mp
theorem own_intc {w:World} {C:Nat} {la:Option Addr} {m lc:Nat} {l:List Int} (h:w.ownsRow C 3 1 (.slice la m lc) m (l.map zV)):∀ k y,l[k]?=some y→∃ b o,la=some ⟨b,o,none⟩∧w.cell? ⟨b,o+k,none⟩=some (.int .i64 y):=by
 obtain ⟨a,c,e,_,hc⟩:=own_ints h
 simp only [Value.slice.injEq,true_and] at e
 obtain ⟨rfl,rfl⟩:=e
 exact hc
set_option maxRecDepth 100000 in
set_option maxHeartbeats 8000000 in
theorem covered_any (B:Nat) (w:World) (gb:Nat) (S:GrS) (G:GrD) (ni n:Nat) (hF:FineG G ni n) (h:GIn B w gb S G) (hnil:S.a3=none→S.c3=0) :
  Calls Try.prog 21 #[.pointer (some ⟨gb,0,none⟩)] w fun e w'=>∃ (D:ChS) (C:Nat) (U:Nat→Nat) (gs:List Nat) (Ls:List (List Nat)) (bs:List Nat) (gv lv ev bv:Value),e = .returned (.pointer (some ⟨D.cb,4,none⟩))∧w.heap.size≤D.cb∧Hid (CvAt C w' D U gs Ls bs gv lv ev bv)∧Hid (CovI (ValG (grG hF) (iaG G) (ibG G) n) (firstN G) n (dOf (Fd hF G.ands.length).2) (mxE (dOf (Fd hF G.ands.length).2) (endL G)) (fun u=>∃ x,x ∈ endL G∧(x / 2).toNat=u) (firstN G) U gs Ls bs)∧Hid (Bl w w'):=by
 have FO:=hidden (found_any B w gb S G ni n hF h)
 have HF:=hidden hF
 have HG:=hidden h
 have HNIL:=hidden hnil
 have hN6:n≤60000:=hF.le
 have hall:=hF.all
 have hoks:=fd_ok hF (Nat.le_refl G.ands.length)
 have hce:CutE (ValG (grG hF) (iaG G) (ibG G) n) (firstN G) (firstN G+G.ands.length) (Fd hF G.ands.length).1 (dOf (Fd hF G.ands.length).2):=hoks.cutE
 rw [hall] at hce
 obtain ⟨ff,fdc,fds⟩:=fd_fin hF (Nat.le_refl G.ands.length)
 have HFF:=hidden ff
 have hl1:=(fd_len hF (Nat.le_refl G.ands.length)).1
 rw [hall] at hl1
 have HL1:=hidden hl1
 have hdpb:∀ u,dOf (Fd hF G.ands.length).2 u≤60000:=fun u=>by
  unfold dOf
  rw [List.getD_eq_getElem?_getD]
  cases e:(Fd hF G.ands.length).2[u]? with
  | none=>exact Nat.zero_le _
  | some d=>exact fds d (List.mem_of_getElem? e)
 have HEN:Hid (∀ x,x ∈ endL G→0≤x∧x<2*(n:Int)):=fun x hx=>by
  rcases List.mem_append.1 hx with hx | hx
  ·exact hF.outs x hx
  ·obtain ⟨z,hz,rfl⟩:=List.mem_map.1 hx
   exact hF.lats z hz
 have hFn:firstN G≤n:=by omega
 have hel:(endL G).length≤70000:=by
  unfold endL
  rw [List.length_append,List.length_map]
  have:=hF.lo;have:=hF.ll;omega
 have HEV:Hid (∀ w1:World,∀ fb:Nat,FnB w1 fb (Fd hF G.ands.length).1 (Fd hF G.ands.length).2→∃ (SF:FnS) (db cd:Nat),SF.fb=fb∧FinR w1 SF (Fd hF G.ands.length).1∧FnLow w1.heap.size SF∧w1.cell? ⟨fb,2,none⟩=some (.slice (some ⟨db,0,none⟩) n cd)∧db<w1.heap.size∧∀ v,v<n→w1.cell? ⟨db,v,none⟩=some (.int .i64 (dOf (Fd hF G.ands.length).2 v:Nat))):=fun w1 fb hh=>fd_env hF hh
 have HFG0:Hid (∀ v:World,GIn B v gb S G→Calls Try.prog 35 #[.pointer (some ⟨gb,0,none⟩)] v fun e w'=>e = .returned (.int .i64 (firstN G:Nat))∧Bl v w'):=fun v hv=>first_any v gb S G ni n hF hv.bx
 generalize ValG (grG hF) (iaG G) (ibG G) n=P at *
 obtain ⟨F,EF⟩:=exh (firstN G)
 have HFEQ:=hidden EF.out
 rw [←EF.out] at hce HFG0 hFn
 rw [←EF.out]
 obtain ⟨dp,Edp⟩:=exh (dOf (Fd hF G.ands.length).2)
 rw [←Edp.out] at hce HEV hdpb
 rw [←Edp.out]
 have HDPB:=hidden hdpb
 obtain ⟨Cs,ECs⟩:=exh (Fd hF G.ands.length).1
 rw [←ECs.out] at hce HEV HFF HL1 FO
 have HCE:=hidden hce
 obtain ⟨es,Ees⟩:=exh (endL G)
 rw [←Ees.out] at hel HEN
 rw [←Ees.out]
 clear hall hoks hce ff fdc fds hl1 hdpb h hnil
 go_enter Try.func21,Try.ntmps21
 go_wp2_with fail
 go_at_call 39
 refine FO.out.mono ?_
 rintro e w1 ⟨fb,rfl,hfb,HN1,HB1⟩
 obtain ⟨SF,db,cd,hsf,hfr,hlow,c2,hdb,hds⟩:=HEV.out w1 fb HN1.out
 obtain ⟨C0,EC0⟩:=exh w1.heap.size
 rw [←EC0.out] at hlow hdb
 have HSF:=hidden hsf
 have HLOW:=hidden hlow
 have hwC:w.heap.size≤C0:=by rw [EC0.out];exact HB1.out.size
 have hBw:B≤w.heap.size:=HG.out.le
 have hfC:fb<C0:=by rw [←hsf];exact hlow.f
 have HBW:Hid (∀ u:World,Below C0 w1 u→Bl w u):=fun u hu=>HB1.out.trans (hu.mono hwC)
 have HGB:Hid (∀ u:World,Below C0 w1 u→GIn B u gb S G):=fun u hu=>HG.out.to ((HBW.out u hu).mono hBw)
 have HGI:Hid (∀ u:World,Below C0 w1 u→GIn C0 u gb S G):=fun u hu=>(HGB.out u hu).mono (Nat.le_trans hBw hwC) (by rw [EC0.out];exact hu.size)
 have HFG:Hid (∀ u:World,Below C0 w1 u→Calls Try.prog 35 #[.pointer (some ⟨gb,0,none⟩)] u fun e w'=>e = .returned (.int .i64 (F:Nat))∧Bl u w'):=fun u hu=>HFG0.out u (HGB.out u hu)
 have HFR:Hid (∀ u:World,Below C0 w1 u→FinR u SF Cs):=fun u hu=>hfr.low hlow hu
 have HDC:Hid (∀ u:World,Below C0 w1 u→u.cell? ⟨fb,2,none⟩=some (.slice (some ⟨db,0,none⟩) n cd)):=fun u hu=>(hu.cell (p:=⟨fb,2,none⟩) hfC).trans c2
 have HDS:Hid (∀ u:World,Below C0 w1 u→∀ v,v<n→u.cell? ⟨db,v,none⟩=some (.int .i64 (dp v:Nat))):=fun u hu v hv=>(hu.cell (p:=⟨db,v,none⟩) hdb).trans (hds v hv)
 have HUP:Hid (∀ u v:World,Below C0 w1 u→Bl u v→Below C0 w1 v):=fun u v hu hv=>hu.trans (hv.mono (by rw [EC0.out];exact hu.size))
 have HRF:Hid (Below C0 w1 w1):=by rw [EC0.out];exact Below.refl _ _
 have HDW:Hid (Below C0 w1 w1.drew):=by rw [EC0.out];exact Below.drew (Below.refl _ _)
 clear hsf hlow hfr hds HB1 HN1 FO HEV HFG0
 go_wp2_with fail
 refine wp_region_noPanic ?_
 refine wp_region_held_drew (S:=fun wz=>wz.cell? ⟨fb,2,none⟩=some (.slice (some ⟨db,0,none⟩) n cd)) (by kernel_rfl) (by exact c2) (fun hHeld=>?_)
 refine tk 0 ?_
 refine tk 1 ?_
 refine tk 3 ?_
 refine tk 4 ?_
 refine tk 5 ?_
 refine tk 6 ?_
 refine tk 7 ?_
 refine wpAnyH_ready (rs:=[2,8]) (by kernel_rfl) (by simp) ?_
 refine AllReadyH.cons (o:=_) rfl (fun K hK=>?cA) (AllReadyH.cons (o:=_) rfl (fun K hK=>?cB) AllReadyH.nil)
 case' cA =>
  (try simp only [gA,gB,gC]);go_simp
  go_at_call 35
  refine (HFG.out _ HDW.out).mono ?_
  rintro e v1 ⟨rfl,hv1⟩
  have HV1:=hidden (HUP.out _ _ HDW.out hv1)
  obtain ⟨x5,hr5,hk5,hb5⟩:=newL (w:=v1) hN6
  obtain ⟨ub,Eub⟩:=exh v1.heap.size
  rw [←Eub.out] at hr5 hk5
  have HX5:=hidden (HUP.out _ _ HV1.out hb5)
  have HK5:=hidden hk5
  have hub:C0≤ub:=by rw [Eub.out,EC0.out];exact HV1.out.size
  clear hv1 hk5 hb5
  go_wp2_with fail
  refine wo hK (HDC.out v1 HV1.out) fun _=>?_
  clear hK K HV1
  refine rd 8 fun K hK=>?_
  (try simp only [gA,gB,gC]);go_simp
  refine wo hK (HDC.out x5 HX5.out) fun _=>?_
  clear hK K hr5 Eub
 case' cB =>
  obtain ⟨v1,hr5,hk5,hb5⟩:=newL (w:=w1.drew) hN6
  obtain ⟨ub,Eub⟩:=exh w1.heap.size
  rw [show w1.drew.heap.size=w1.heap.size from rfl,←Eub.out] at hr5 hk5
  have HV1:=hidden (HUP.out _ _ HDW.out hb5)
  have hub:C0≤ub:=by rw [Eub.out,EC0.out];exact Nat.le_refl _
  have HK1:=hidden hk5
  clear hk5 hb5
  (try simp only [gA,gB,gC]);go_simp
  refine wo hK (HDC.out v1 HV1.out) fun _=>?_
  clear hK K hr5 Eub
  refine rd 2 fun K hK=>?_
  (try simp only [gA,gB,gC]);go_simp
  go_at_call 35
  refine (HFG.out _ HV1.out).mono ?_
  rintro e x5 ⟨rfl,hx5⟩
  have HX5:=hidden (HUP.out _ _ HV1.out hx5)
  have HK5:=hidden (HK1.out.below hx5)
  clear hx5 HK1
  go_wp2_with fail
  refine wo hK (HDC.out x5 HX5.out) fun _=>?_
  clear hK K HV1
 all_goals
  refine tk 9 ?_
  refine rd 10 fun K hK=>?_
  (try simp only [gA,gB,gC]);go_simp
  obtain ⟨cb,Ecb⟩:=exh x5.heap.size
  have hal:Below x5.heap.size x5 (x5.alloc (.cells #[.pointer (some ⟨fb,0,none⟩),.int .i64 (F:Nat),.slice none 0 0,.slice (some ⟨ub,0,none⟩) n n,.slice none 0 0,.slice none 0 0,.slice none 0 0,.slice none 0 0] 89)):=(Below.refl _ _).alloc (Nat.le_refl _) _
  have hbk:=Blk.new x5 89 #[.pointer (some ⟨fb,0,none⟩),.int .i64 (F:Nat),.slice none 0 0,.slice (some ⟨ub,0,none⟩) n n,.slice none 0 0,.slice none 0 0,.slice none 0 0,.slice none 0 0]
  rw [←Ecb.out] at hbk
  have hun:=HK5.out.below hal
  have hcu:ub<cb:=by rw [Ecb.out];exact HK5.out.lt
  have HX6:=hidden (HUP.out _ _ HX5.out hal)
  rw [←Ecb.out]
  clear hal
  generalize x5.alloc (.cells #[.pointer (some ⟨fb,0,none⟩),.int .i64 (F:Nat),.slice none 0 0,.slice (some ⟨ub,0,none⟩) n n,.slice none 0 0,.slice none 0 0,.slice none 0 0,.slice none 0 0] 89)=x6 at *
  refine wo hK (HDC.out x6 HX6.out) fun _=>?_
  clear hK K
  refine tk 11 ?_
  refine wpAnyH_done (by kernel_rfl) ?_ _
  refine NoPanic.normal ?_
  have PR:=hidden (price_any C0 x6 cb fb ub n F gb (fun _=>0) SF Cs S G ni n (some ⟨db,0,none⟩) cd hbk hun (by omega) ⟨by omega,hub⟩ HSF.out HLOW.out (HFR.out x6 HX6.out) HFF.out HL1.out.symm (HDC.out x6 HX6.out) (HGI.out x6 HX6.out) HF.out rfl HFEQ.out (fun v h1 h2=>by
   obtain ⟨c0,ct,e,_,c,hc,_⟩:=HCE.out.gate v h1 h2
   rw [e,List.length_cons]
   have:=List.length_pos_of_mem hc
   omega))
  have hcbC:C0≤cb:=by omega
  clear hbk hun HK5 HX5 c2
  go_wp2_with fail
  go_at_call 40
  refine PR.out.mono ?_
  rintro e w3 ⟨pb,⟨y3,rfl⟩,hpb,HCH,HB3⟩
  have hpC:C0≤pb:=by have:=HX6.out.size;have:=EC0.out;omega
  have HX3:Hid (Below C0 w1 w3):=HX6.out.trans HB3.out
  obtain ⟨D,ED⟩:=exh (⟨cb,fb,pb,ub,n,F⟩:ChS)
  rw [←ED.out] at HCH
  have HCV:=hidden (CvAt.none HCH.out)
  obtain ⟨C,EC⟩:=exh w3.heap.size
  rw [←EC.out] at HCV
  have HE:Hid (ChE C0 C D SF Cs):=by
   rw [ED.out]
   exact ⟨HSF.out,HLOW.out,⟨hcbC,hpC,hub⟩,HFF.out,HL1.out.symm,by rw [HL1.out];exact hN6⟩
  have HKS:Hid (∀ (u:World) (U:Nat→Nat) (gv lv ev bv:Value),ChAt u D U gv lv ev bv→u.cell? ⟨cb,0,none⟩=some (.pointer (some ⟨fb,0,none⟩))∧u.cell? ⟨cb,1,none⟩=some (.int .i64 (F:Nat))∧u.cell? ⟨cb,3,none⟩=some (.slice (some ⟨ub,0,none⟩) n n)∧∀ v,v<n→u.cell? ⟨ub,v,none⟩=some (.int .i64 (U v:Nat))∧u.frozen? ⟨ub,v,none⟩=false):=fun u U gv lv ev bv hc=>by
   rw [ED.out] at hc
   exact ⟨hc.bk.cell (i:=0) rfl,hc.bk.cell (i:=1) rfl,hc.bk.cell (i:=3) rfl,fun v hv=>⟨hc.un.cell (tab_get hv),hc.un.frozen v⟩⟩
  have HST:Hid (∀ (u:World) (U:Nat→Nat) (gs:List Nat) (Ls:List (List Nat)) (bs:List Nat) (gv lv ev bv:Value) (v t:Nat),CvAt C u D U gs Ls bs gv lv ev bv→CvAt C (u.setCell ⟨ub,v,none⟩ (.int .i64 (t:Nat))) D (upd U v t) gs Ls bs gv lv ev bv):=fun u U gs Ls bs gv lv ev bv v t hc=>by
   have:=hc.need (hc.ch.until v t) (But.set D.ub v u (.int .i64 (t:Nat)))
   rw [ED.out] at this ⊢
   exact this
  have HES:Hid (∀ u:World,Below C0 w1 u→Calls Try.prog 41 #[.pointer (some ⟨gb,0,none⟩)] u fun e w'=>∃ v,e = .returned v∧Hid (w'.ownsRow u.heap.size 3 1 v es.length (es.map zV))∧Hid (Bl u w')):=fun u hu=>by
   have:=ends_any B u gb S G ni n HF.out (HGB.out u hu) HNIL.out
   rw [←Ees.out] at this
   exact this
  have E3:=hidden (HES.out w3 HX3.out)
  clear PR HCH HB3 HX6
  go_wp2_with fail
  go_at_call 41
  refine E3.out.mono ?_
  rintro e w4 ⟨v4,rfl,HO4,HB4⟩
  obtain ⟨la,lc,hv4,-,hcells⟩:=own_ints HO4.out
  subst hv4
  have HX4:=hidden (HUP.out _ _ HX3.out HB4.out)
  have HCL:=hidden hcells
  obtain ⟨m,Em⟩:=exh es.length
  have HCV4:=hidden (HCV.out.to HB4.out)
  obtain ⟨k0,-,-,-⟩:=HKS.out _ _ _ _ _ _ HCV4.out.ch
  have kd:=HDC.out w4 HX4.out
  rw [←Em.out] at hel
  rw [←Em.out]
  clear hcells E3 HO4 HB4 HCV HX3
  go_wp2_with fail
  go_loopw [5,7,30] (fun d' _ i' w'=>∃ i dd:Nat,i≤m∧dd≤60000∧i' = .int .i64 (i:Int)∧d' = .int .i64 (dd:Int)∧Hid (dd=mxE dp (es.take i))∧Hid (w'=w4)) (fun _ _ i' _=>m - (intOf i').toNat)
  case atStart=>exact ⟨0,0,Nat.zero_le _,Nat.zero_le _,rfl,rfl,rfl,rfl⟩
  case round =>
   obtain ⟨i,dd,hi,hdd,rfl,rfl,HDD,HW⟩:=hrel
   obtain rfl:=HW.out
   clear HW
   by_cases hlt:i<m
   ·have hltI:(i:Int)<(m:Int):=by omega
    obtain ⟨x,hx⟩:=getElem_lt (show i<es.length by rw [←Em.out];exact hlt)
    obtain ⟨b,o,ea,cx⟩:=HCL.out i x hx
    obtain ⟨hx0,hx1⟩:=HEN.out x (List.mem_of_getElem? hx)
    obtain ⟨p,Ep⟩:=exh (x / 2).toNat
    have hxq:x.tdiv 2=(p:Int):=by rw [Int.tdiv_eq_ediv_of_nonneg hx0,Ep.out];omega
    have hpn:p<n:=by have:=Ep.out;omega
    have hpI:(p:Int)<(n:Int):=by omega
    have cq:=HDS.out wr HX4.out p hpn
    have hpd:=HDPB.out p
    obtain ⟨dq,Edq⟩:=exh (dp p)
    rw [←Edq.out] at cq hpd
    have hmx:max (dd:Int) (dq:Int)=((max dd dq:Nat):Int):=by omega
    have hml:max dd dq≤60000:=by omega
    have HNM:Hid (max dd dq=mxE dp (es.take (i+1))):=by
     show _=_
     rw [mxE_next hx,←HDD.out,←Ep.out,←Edq.out]
    have e2:IntKind.i64.wrap ((i:Int)+1)=(i:Int)+1:=wrapI _ (by omega) (by omega)
    generalize max dd dq=dn at *
    subst ea
    clear hx HDD hx0 hx1 hpd
    go_wp2
    go_roundw
    case measure=>simp [intOf];omega
    case rel=>exact ⟨i+1,dn,by omega,hml,by simp,rfl,HNM.out,True.intro⟩
   ·have hge:¬ (i:Int)<(m:Int):=by omega
    have HDL:Hid (dd=mxE dp es):=by
     show _=_
     rw [HDD.out,List.take_of_length_le (by have:=Em.out;omega)]
    have E4:=hidden (HES.out wr HX4.out)
    obtain ⟨H4,EH4⟩:=exh wr.heap.size
    rw [←EH4.out,←Em.out] at E4
    have huH:ub<H4:=by rw [EH4.out];exact cell_lt (((HKS.out _ _ _ _ _ _ HCV4.out.ch).2.2.2 0 (by have:=HFEQ.out;unfold firstN at this;omega)).1)
    clear HDD k0 kd HCL
    go_wp2_with fail
    go_at_call 41
    refine E4.out.mono ?_
    rintro e w5 ⟨v5,rfl,HO5,HB5⟩
    obtain ⟨lb,lc2,hv5,-,-⟩:=own_ints HO5.out
    subst hv5
    have HX5:=hidden (HUP.out _ _ HX4.out HB5.out)
    have HCV5:=hidden (HCV4.out.to HB5.out)
    clear E4 HB5 HCV4 HX4
    go_wp2_with fail
    go_loopw [9,51] (fun _ i' w'=>∃ i:Nat,i≤m∧i' = .int .i64 (i:Int)∧Hid (w'.ownsRow H4 3 1 (.slice lb m lc2) m (es.map zV))∧Hid (CvAt C w' D (untE dd (es.take i)) [] [] [] (.slice none 0 0) (.slice none 0 0) (.slice none 0 0) (.slice none 0 0))∧Hid (Below C0 w1 w')) (fun _ i' _=>m - (intOf i').toNat)
    case atStart=>exact ⟨0,Nat.zero_le _,rfl,HO5.out,HCV5.out,HX5.out⟩
    case round =>
     clear HO5 HCV5 HX5
     obtain ⟨j,hj,rfl,HO,HCV,HX⟩:=hrel
     obtain ⟨-,-,k3,ku⟩:=HKS.out _ _ _ _ _ _ HCV.out.ch
     by_cases hlj:j<m
     ·have hljI:(j:Int)<(m:Int):=by omega
      obtain ⟨x,hx⟩:=getElem_lt (show j<es.length by rw [←Em.out];exact hlj)
      obtain ⟨b,o,ea,cx⟩:=own_intc HO.out j x hx
      obtain ⟨hx0,hx1⟩:=HEN.out x (List.mem_of_getElem? hx)
      obtain ⟨p,Ep⟩:=exh (x / 2).toNat
      have hxq:x.tdiv 2=(p:Int):=by rw [Int.tdiv_eq_ediv_of_nonneg hx0,Ep.out];omega
      have hpn:p<n:=by have:=Ep.out;omega
      have hpI:(p:Int)<(n:Int):=by omega
      obtain ⟨cu,cf⟩:=ku p hpn
      obtain ⟨q,Eq⟩:=exh (untE dd (es.take j) p)
      rw [←Eq.out] at cu
      have HCN:Hid (CvAt C (wr.setCell ⟨ub,p,none⟩ (.int .i64 (dd:Nat))) D (untE dd (es.take (j+1))) [] [] [] (.slice none 0 0) (.slice none 0 0) (.slice none 0 0) (.slice none 0 0)):=by
       rw [untE_next hx,←Ep.out]
       exact HST.out _ _ _ _ _ _ _ _ _ p dd HCV.out
      have hbt:=But.set ub p wr (.int .i64 (dd:Nat))
      have HON:Hid ((wr.setCell ⟨ub,p,none⟩ (.int .i64 (dd:Nat))).ownsRow H4 3 1 (.slice lb m lc2) m (es.map zV)):=own_kept HO.out hbt.grown (new_ne (own_newB HO.out) huH)
      have HXN:Hid (Below C0 w1 (wr.setCell ⟨ub,p,none⟩ (.int .i64 (dd:Nat)))):=HX.out.trans (hbt.below hub (by rw [EC0.out];exact HX.out.size))
      have e2:IntKind.i64.wrap ((j:Int)+1)=(j:Int)+1:=wrapI _ (by omega) (by omega)
      subst ea
      clear hx hx0 hx1 ku HO HCV HX hbt
      go_wp2
      go_roundw
      case measure=>simp [intOf];omega
      case rel=>exact ⟨j+1,by omega,by simp,HON.out,HCN.out,HXN.out⟩
     ·have hgj:¬ (j:Int)<(m:Int):=by omega
      have HCV2:Hid (CvAt C wr D (untE dd es) [] [] [] (.slice none 0 0) (.slice none 0 0) (.slice none 0 0) (.slice none 0 0)):=by
       have:=HCV.out
       rw [List.take_of_length_le (by have:=Em.out;omega)] at this
       exact this
      have HCI:Hid (CovI P F n dp dd (fun u=>∃ x,x ∈ es∧(x / 2).toNat=u) n (untE dd es) [] [] []):=by
       have:=cov_start HCE.out es
       rw [←HDL.out] at this
       exact this
      have e3:IntKind.i64.wrap ((n:Int) - 1)=(n:Int) - 1:=wrapI _ (by omega) (by omega)
      clear ku HO HCV
      go_wp2_with fail
      clear k3
      go_loopw [10] (fun v' w'=>∃ (x:Nat) (y:Int) (U:Nat→Nat) (gs:List Nat) (Ls:List (List Nat)) (bs:List Nat) (gv lv ev bv:Value),F≤x∧x≤n∧v' = .int .i64 y∧y=(x:Int) - 1∧Hid (CvAt C w' D U gs Ls bs gv lv ev bv)∧Hid (CovI P F n dp dd (fun u=>∃ x,x ∈ es∧(x / 2).toNat=u) x U gs Ls bs)∧Hid (Below C0 w1 w')) (fun v' _=>(intOf v'+1).toNat)
      case atStart=>exact ⟨n,_,_,_,_,_,_,_,_,_,hFn,Nat.le_refl _,rfl,rfl,HCV2.out,HCI.out,HX.out⟩
      case round =>
       clear HCV2 HCI HX
       obtain ⟨x,y,U,gs,Ls,bs,gv,lv,ev,bv,hFx,hxn,rfl,hy,HCV,HCI,HX⟩:=hrel
       obtain ⟨-,k1,k3,ku⟩:=HKS.out _ _ _ _ _ _ HCV.out.ch
       by_cases hx:F<x
       ·obtain ⟨v,rfl⟩:∃ v,x=v+1:=⟨x - 1,by omega⟩
        obtain rfl:y=(v:Int):=by omega
        have hFv:(F:Int)≤(v:Int):=by omega
        have hvn:v<n:=by omega
        have hvI:(v:Int)<(n:Int):=by omega
        obtain ⟨cu,-⟩:=ku v hvn
        have hok:=HCI.out.ok v (by omega) hvn
        obtain ⟨q,Eq⟩:=exh (U v)
        rw [←Eq.out] at cu hok
        have e4:IntKind.i64.wrap ((v:Int) - 1)=(v:Int) - 1:=wrapI _ (by omega) (by omega)
        clear ku hy
        by_cases h0:q=0
        ·subst h0
         have HC2:=hidden (HCI.out.skip Eq.out.symm)
         clear hok
         go_wp2
         go_roundw
         case measure=>simp [intOf]
         case rel=>exact ⟨v,_,U,gs,Ls,bs,gv,lv,ev,bv,by omega,by omega,rfl,rfl,HCV.out,HC2.out,HX.out⟩
        ·have h0I:(0:Int)<(q:Int):=by omega
         obtain ⟨hok1,hok2⟩:=hok (by omega)
         obtain ⟨c0,ct,hct,hcs,cm,hcm,hcd⟩:=HCE.out.gate v (by omega) hvn
         obtain ⟨n1,n2,n3,n4⟩:=HCI.out.len
         have CH:=hidden (choose_any C0 C wr D U gs Ls bs gv lv ev bv SF Cs HE.out HCV.out (HFR.out wr HX.out) v (by rw [HL1.out];exact hvn) c0 ct hct ⟨cm,hcm,by rw [←Eq.out];omega⟩ (fun c hc u hu=>((hcs c hc).2.2 u hu).1) (by rw [←Eq.out];omega) (by omega) (by omega) (by omega) (by omega))
         rw [show D.cb=cb by rw [ED.out]] at CH
         have HTK:Hid (∀ c,c ∈ ct→c.dep<U v→CovI P F n dp dd (fun u=>∃ x,x ∈ es∧(x / 2).toNat=u) v (needs U (lvW c) (U v - 1)) (gs++[v]) (Ls++[lvW c]) (bs++[bitT (wtyL c) c.tb])):=fun c hc hd=>HCI.out.take HCE.out (by omega) hvn hct hc hd
         clear hct hcs hcm hcd n1 n2 n3 n4 hok1 hok2
         go_wp2_with fail
         go_at_call 42
         refine CH.out.mono ?_
         rintro e w7 ⟨c,gv',lv',ev',bv',⟨y7,rfl⟩,hc,hdep,HCV7,HB7⟩
         have HC2:=hidden (HTK.out c hc hdep)
         have HX7:Hid (Below C0 w1 w7):=HX.out.trans HB7.out
         clear CH HTK hc hdep k1 k3 cu HCV HCI HX HB7
         go_wp2
         go_roundw
         case measure=>simp [intOf]
         case rel=>exact ⟨v,_,_,_,_,_,_,_,_,_,by omega,by omega,rfl,rfl,HCV7.out,HC2.out,HX7.out⟩
       ·have hxF:x=F:=by omega
        subst hxF
        have hFv:¬ (x:Int)≤y:=by omega
        have hDcb:D.cb=cb:=by rw [ED.out]
        have HBF:=hidden (HBW.out wr HX.out)
        clear ku k3
        go_wp2
        go_ret
        exact ⟨D,by rw [hDcb];rfl,by rw [hDcb];omega,C,U,gs,Ls,bs,⟨gv,lv,ev,bv,HCV.out⟩,by rw [←HDL.out];exact HCI.out,HBF.out⟩
end Go.Proofs.Ytlaljeobdddegaa
