import Derived.Test.YtlaljeobdddegaaJ39
namespace Go.Proofs.Ytlaljeobdddegaa
open Go.RowKit Mp
theorem cut_tl (wx:World) (ab so n:Nat) (hn:2≤n):(Instr.sliceAt 83 (.slice (some ⟨ab,so,none⟩) n n) (some (.int .i64 1)) none none).run Try.prog wx = .ok (.slice (some ⟨ab,so+8,none⟩) (n - 1) (n - 1)) wx:=by
 rw [run_sliceAt_slice wx _ _ _ _ _ cut_u,run_slice_l wx _ _ n n cut_u .i64 1 (by omega) (by omega),cut_s]
 show Result.ok (sliced _ 1 n n 8) wx=_
 unfold sliced
 rw [if_neg (by omega)]
 simp only [Option.map_some,addL]
def lvW (c:Ct):List Nat:=(wtyL c).map fun p=>c.lv.getD p 0
def needs (U:Nat→Nat) (l:List Nat) (t:Nat):Nat→Nat:=l.foldl (fun U u=>needU U u t) U
theorem needs_snoc (U:Nat→Nat) (l:List Nat) (u t:Nat):needs U (l++[u]) t=needU (needs U l t) u t:=by unfold needs;rw [List.foldl_append];rfl
theorem needU_ne {U:Nat→Nat} {u v t:Nat} (h:v≠u):needU U u t v=U v:=by
 unfold needU
 split
 ·exact upd_ne h
 ·rfl
theorem needs_ne {U:Nat→Nat} {v t:Nat}:∀ {l:List Nat},v ∉ l→needs U l t v=U v:=by
 intro l
 induction l generalizing U with
 | nil=>intro _;rfl
 | cons a r ih =>
  intro h
  have h1:v≠a:=fun e=>h (by rw [e];exact List.mem_cons_self)
  show needs (needU U a t) r t v=U v
  rw [ih (fun hm=>h (List.mem_cons_of_mem _ hm)),needU_ne h1]
theorem CvAt.need {C:Nat} {w w':World} {D:ChS} {U U':Nat→Nat} {gs:List Nat} {Ls:List (List Nat)} {bs:List Nat} {gv lv ev bv:Value} (h:CvAt C w D U gs Ls bs gv lv ev bv) (hc:ChAt w' D U' gv lv ev bv) (hb:But D.ub w w'):CvAt C w' D U' gs Ls bs gv lv ev bv :=
 ⟨hc,own_kept h.og hb.grown (new_ne (own_newB h.og) h.lt.2.2),own_kept h.ol hb.grown (new_ne (own_newB h.ol) h.lt.2.2),own_kept h.oe hb.grown (new_ne (own_newB h.oe) h.lt.2.2),own_kept h.ob hb.grown (new_ne (own_newB h.ob) h.lt.2.2),h.f1,h.f2,h.f3,h.f4,h.f5,h.f6,h.lt,Nat.le_trans h.le hb.size⟩
theorem CvAt.grow {C:Nat} {w w':World} {D:ChS} {U:Nat→Nat} {gs:List Nat} {Ls:List (List Nat)} {bs:List Nat} {gv lv ev bv:Value} (h:CvAt C w D U gs Ls bs gv lv ev bv) {row:Option Nat} (hg:w.grownBy w' row) {T:Nat} (hr:∀ k,row=some k→T≤k) (hT:C≤T) (h1:∀ k,gv.ownBlock=some k→k<T) (h2:∀ k,lv.ownBlock=some k→k<T) (h3:∀ k,ev.ownBlock=some k→k<T) (h4:∀ k,bv.ownBlock=some k→k<T):CvAt C w' D U gs Ls bs gv lv ev bv:=by
 have ne:∀ v:Value,(∀ k,v.ownBlock=some k→k<T)→v.ownBlock=none∨v.ownBlock≠row:=fun v hv=>by
  cases e:v.ownBlock with
  | none=>exact Or.inl rfl
  | some k=>exact Or.inr (fun e2=>by have:=hv k e;have:=hr k e2.symm;omega)
 have nb:∀ b,b<C→some b≠row:=fun b hb e=>by have:=hr b e.symm;omega
 obtain ⟨f,hf⟩:=h.ch.pr
 exact ⟨⟨blk_kept h.ch.bk hg (nb _ h.lt.1),⟨f,blk_kept hf hg (nb _ h.lt.2.1)⟩,blk_kept h.ch.un hg (nb _ h.lt.2.2),h.ch.ne⟩,own_kept h.og hg (ne _ h1),own_kept h.ol hg (ne _ h2),own_kept h.oe hg (ne _ h3),own_kept h.ob hg (ne _ h4),h.f1,h.f2,h.f3,h.f4,h.f5,h.f6,h.lt,Nat.le_trans h.le hg.size⟩
structure ChE (C0 C:Nat) (D:ChS) (SF:FnS) (Cs:List (List Ct)):Prop where
 fb:SF.fb=D.fb
 low:FnLow C0 SF
 le:C0≤D.cb∧C0≤D.pb∧C0≤D.ub
 ff:FinF Cs
 N:D.N=Cs.length
 num:Cs.length≤60000
set_option maxRecDepth 100000 in
set_option maxHeartbeats 8000000 in
theorem choose_any (C0 C:Nat) (w:World) (D:ChS) (U:Nat→Nat) (gs:List Nat) (Ls:List (List Nat)) (bs:List Nat) (gv lv ev bv:Value) (SF:FnS) (Cs:List (List Ct)) (hE:ChE C0 C D SF Cs) (h:CvAt C w D U gs Ls bs gv lv ev bv) (hfr:FinR w SF Cs) (v:Nat) (hv:v<Cs.length) (c0:Ct) (ct:List Ct) (hct:Cs.getD v []=c0 :: ct) (hex:∃ c,c ∈ ct∧c.dep<U v) (hlow:∀ c,c ∈ ct→∀ u,u ∈ c.lv→u<v) (hU:U v≤60000) (hn1:gs.length≤60000) (hn2:Ls.length≤60000) (hn3:Ls.flatten.length≤1000000) (hn4:bs.length≤60000) :
  Calls Try.prog 42 #[.pointer (some ⟨D.cb,0,none⟩),.int .i64 (v:Nat)] w fun e w'=>∃ c gv' lv' ev' bv',(∃ x,e = .returned x)∧c ∈ ct∧c.dep<U v∧Hid (CvAt C w' D (needs U (lvW c) (U v - 1)) (gs++[v]) (Ls++[lvW c]) (bs++[bitT (wtyL c) c.tb]) gv' lv' ev' bv')∧Hid (Below C0 w w'):=by
 have hC0:C0≤w.heap.size:=Nat.le_trans hE.le.1 (Nat.le_of_lt (Nat.lt_of_lt_of_le h.lt.1 h.le))
 have HFR:Hid (∀ u:World,Below C0 w u→FinR u SF Cs):=fun u hu=>hfr.low hE.low hu
 have AT:=hidden (finAt_any w SF Cs hfr v hv (hE.ff.has v hv))
 rw [hct,hE.fb] at AT
 have hnum:=hE.num
 have HN:=hidden hE.N
 have HCT:Hid (∀ u:World,Below C0 w u→∀ (i:Nat) (c:Ct),ct[i]?=some c→CtAt u SF.ab (stO Cs v*8+8+i*8) c∧c.lv.length≤4∧c.tb<65536∧(∀ x,x ∈ c.lv→x<D.N)∧∀ x,x ∈ c.lv→x<v):=fun u hu i c hc=>by
  have hg:(Cs.getD v [])[i+1]?=some c:=by rw [hct];simpa using hc
  obtain ⟨h1,h2⟩:=(HFR.out u hu).at hv hg
  rw [show stO Cs v*8+(i+1)*8=stO Cs v*8+8+i*8 by omega] at h1
  obtain ⟨_,h4,h5⟩:=hE.ff.each v hv c (List.mem_of_getElem? hg)
  exact ⟨h1,h2,h5,by rw [HN.out];exact h4.2,hlow c (List.mem_of_getElem? hc)⟩
 have HBC:Hid (∀ u:World,Bl w u→Below C0 w u):=fun u hu=>hu.mono hC0
 have HCO:Hid (∀ (u:World) (i:Nat) (c:Ct),Bl w u→ct[i]?=some c→Calls Try.prog 59 #[.pointer (some ⟨D.cb,0,none⟩),.pointer (some ⟨SF.ab,stO Cs v*8+8+i*8,none⟩)] u fun e w'=>(∃ z:Int,e = .returned (.int .i64 z))∧Bl u w'):=fun u i c hu hc=>by
  obtain ⟨h1,h2,h3,h4,_⟩:=HCT.out u (HBC.out u hu) i c hc
  exact costs_any u D U gv lv ev bv (h.ch.to hu) _ _ c h1 h2 h3 h4
 have HCV:=hidden h
 have HCC:Hid (∀ u:World,Bl w u→u.cell? ⟨D.cb,3,none⟩=some (.slice (some ⟨D.ub,0,none⟩) D.N D.N)∧u.cell? ⟨D.ub,v,none⟩=some (.int .i64 (U v:Nat))):=fun u hu=>⟨(h.ch.to hu).bk.cell (i:=3) rfl,(h.ch.to hu).un.cell (tab_get (by rw [HN.out];exact hv))⟩
 have z0:w.cell? ⟨D.cb,0,none⟩=some (.pointer (some ⟨D.fb,0,none⟩)):=h.ch.bk.cell (i:=0) rfl
 have hvN:(v:Int)<(D.N:Int):=by rw [HN.out];omega
 obtain ⟨n1,En1⟩:=exh ct.length
 obtain ⟨n0,En0⟩:=exh (c0 :: ct).length
 have hn0:n0=n1+1:=by rw [En0.out,En1.out,List.length_cons]
 have hn1p:1≤n1:=by
  obtain ⟨c,hc,_⟩:=hex
  rw [En1.out];exact List.length_pos_of_mem hc
 have hn1b:n1≤257:=by
  have:=hE.ff.few v hv
  rw [hct,←En0.out] at this;omega
 have HEX:=hidden hex
 rw [←En0.out] at AT
 have RS:∀ wx:World,(Instr.sliceAt 83 (.slice (some ⟨SF.ab,stO Cs v*8,none⟩) n0 n0) (some (.int .i64 1)) none none).run Try.prog wx = .ok (.slice (some ⟨SF.ab,stO Cs v*8+8,none⟩) n1 n1) wx:=fun wx=>by
  have:=cut_tl wx SF.ab (stO Cs v*8) n0 (by omega)
  rw [show n0 - 1=n1 by omega] at this
  exact this
 obtain ⟨Uv,EUv⟩:=exh (U v)
 rw [←EUv.out] at HCC hU HEX
 rw [←EUv.out]
 obtain ⟨so,Eso⟩:=exh (stO Cs v*8+8)
 rw [←Eso.out] at HCT HCO RS
 generalize stO Cs v*8=so0 at *
 obtain ⟨ab,Eab⟩:=exh SF.ab
 rw [←Eab.out] at HCT HCO RS AT
 obtain ⟨cb,Ecb⟩:=exh D.cb
 obtain ⟨ub,Eub⟩:=exh D.ub
 obtain ⟨N,ENN⟩:=exh D.N
 obtain ⟨fb,Efb⟩:=exh D.fb
 rw [←Ecb.out] at HCO HCC z0
 rw [←Eub.out,←ENN.out] at HCC
 rw [←ENN.out] at hvN HCT
 rw [←Efb.out] at AT z0
 rw [←Ecb.out]
 clear hn0 hct hex h hfr hlow
 go_enter Try.func42,Try.ntmps42
 go_wp2_with fail
 go_at_call 58
 refine AT.out.mono ?_
 rintro e w1 ⟨rfl,hw1⟩
 have HB1:=hidden hw1
 clear hw1 AT z0
 go_wp2_with fail
 clear RS
 go_loopw [4,6,21] (fun b' _ i' w'=>∃ k:Nat,k≤n1∧i' = .int .i64 (k:Int)∧Hid (Bl w w')∧((b' = .pointer none∧Hid (∀ i c,i<k→ct[i]?=some c→¬ c.dep<Uv))∨∃ j,b' = .pointer (some ⟨ab,so+j*8,none⟩)∧Hid (∃ c,ct[j]?=some c∧c.dep<Uv))) (fun _ _ i' _=>n1 - (intOf i').toNat)
 case atStart=>exact ⟨0,Nat.zero_le _,rfl,HB1.out,Or.inl ⟨rfl,fun i c hi=>by omega⟩⟩
 case round =>
  clear HB1
  obtain ⟨k,hk,rfl,HB,hbest⟩:=hrel
  by_cases hlt:k<n1
  ·have hltI:(k:Int)<(n1:Int):=by omega
   obtain ⟨c,hc⟩:=getElem_lt (show k<ct.length by rw [←En1.out];exact hlt)
   have HC:=hidden hc
   obtain ⟨hat,_⟩:=HCT.out wr (HBC.out wr HB.out) k c hc
   have d6:=hat.c6
   obtain ⟨d3,du⟩:=HCC.out wr HB.out
   have e2:IntKind.i64.wrap ((k:Int)+1)=(k:Int)+1:=wrapI _ (by omega) (by omega)
   obtain ⟨dd,Edd⟩:=exh c.dep
   rw [←Edd.out] at d6
   clear hc hat
   by_cases hd:dd<Uv
   ·have hdI:(dd:Int)<(Uv:Int):=by omega
    have HGD:Hid (∃ c,ct[k]?=some c∧c.dep<Uv):=⟨c,HC.out,by rw [←Edd.out];exact hd⟩
    rcases hbest with ⟨rfl,HBN⟩ | ⟨j,rfl,HBJ⟩
    ·go_wp2_with fail
     refine wp_region_noPanic ?_
     refine wp_region_held_drew (S:=fun wz=>wz.cell? ⟨ab,so+k*8+6,none⟩=some (.int .i64 (dd:Int))∧wz.cell? ⟨cb,3,none⟩=some (.slice (some ⟨ub,0,none⟩) N N)∧wz.cell? ⟨ub,v,none⟩=some (.int .i64 (Uv:Int))) (by kernel_rfl) (by exact ⟨d6,d3,du⟩) (fun hHeld=>?_)
     refine tk 0 ?_
     refine tk 1 ?_
     refine tk 2 ?_
     refine tk 3 ?_
     refine tk 4 ?_
     refine tk 5 ?_
     refine tk 6 ?_
     refine tk 7 ?_
     refine tk 8 ?_
     refine tk 9 ?_
     refine tk 10 ?_
     refine tk 11 ?_
     refine tk 12 ?_
     refine tk 13 ?_
     refine tk 14 ?_
     refine tk 15 ?_
     refine tk 16 ?_
     refine tu 17 ?_
     refine tu 18 ?_
     refine tu 19 ?_
     refine tu 20 ?_
     refine tu 21 ?_
     refine tu 22 ?_
     refine tu 23 ?_
     refine tu 24 ?_
     refine tu 25 ?_
     refine tk 26 ?_
     refine tk 27 ?_
     refine wpAnyH_done (by kernel_rfl) ?_ _
     refine NoPanic.normal ?_
     clear hHeld
     go_wp2
     go_roundw
     case measure=>simp [intOf];omega
     case rel=>exact ⟨k+1,by omega,by simp,Below.drew HB.out,Or.inr ⟨k,rfl,HGD.out⟩⟩
    ·obtain ⟨cj,hcj,_⟩:=HBJ.out
     have CO1:=hidden (fun (u:World) (hu:Bl w u)=>HCO.out u k c hu HC.out)
     have CO2:=hidden (fun (u:World) (hu:Bl w u)=>HCO.out u j cj hu hcj)
     clear hcj
     go_wp2_with fail
     refine wp_region_noPanic ?_
     refine wp_region_held_drew (S:=fun wz=>wz.cell? ⟨ab,so+k*8+6,none⟩=some (.int .i64 (dd:Int))∧wz.cell? ⟨cb,3,none⟩=some (.slice (some ⟨ub,0,none⟩) N N)∧wz.cell? ⟨ub,v,none⟩=some (.int .i64 (Uv:Int))) (by kernel_rfl) (by exact ⟨d6,d3,du⟩) (fun hHeld=>?_)
     refine tk 0 ?_
     refine tk 1 ?_
     refine tk 2 ?_
     refine tk 3 ?_
     refine tk 4 ?_
     refine tk 5 ?_
     refine tk 6 ?_
     refine tk 7 ?_
     refine tk 8 ?_
     refine tk 9 ?_
     refine tk 10 ?_
     refine tk 11 ?_
     refine tk 12 ?_
     refine tk 13 ?_
     refine tk 14 ?_
     refine tk 15 ?_
     refine tk 16 ?_
     refine tk 17 ?_
     refine tk 18 ?_
     refine tk 19 ?_
     refine tk 20 ?_
     refine tk 22 ?_
     refine tk 23 ?_
     refine rd 21 fun K hK=>?_
     (try simp only [gA,gB,gC]);go_simp
     go_at_call 59
     refine (CO1.out wr.drew (Below.drew HB.out)).mono ?_
     rintro e v2 ⟨⟨y1,rfl⟩,hv2⟩
     have HV2:Hid (Bl wr v2):=Bl.tr (Below.drew (Below.refl _ _)) hv2
     clear hv2
     go_wp2_with fail
     have HS2:Hid (∀ u:World,Bl wr u→u.cell? ⟨ab,so+k*8+6,none⟩=some (.int .i64 (dd:Int))∧u.cell? ⟨cb,3,none⟩=some (.slice (some ⟨ub,0,none⟩) N N)∧u.cell? ⟨ub,v,none⟩=some (.int .i64 (Uv:Int))):=fun u hu=>⟨by rw [Edd.out];exact (HCT.out u (HBC.out u (Bl.tr HB.out hu)) k c HC.out).1.c6,HCC.out u (Bl.tr HB.out hu)⟩
     refine wo hK (HS2.out v2 HV2.out) fun hHeld2=>?_
     clear hK K
     refine rd 24 fun K hK=>?_
     (try simp only [gA,gB,gC]);go_simp
     go_at_call 59
     refine (CO2.out v2 (Bl.tr HB.out HV2.out)).mono ?_
     rintro e v3 ⟨⟨y2,rfl⟩,hv3⟩
     have HV3:Hid (Bl wr v3):=Bl.tr HV2.out hv3
     clear hv3
     go_wp2_with fail
     refine wo hK (HS2.out v3 HV3.out) fun hHeld3=>?_
     clear hK K
     refine tk 25 ?_
     refine tk 26 ?_
     refine tk 27 ?_
     refine wpAnyH_done (by kernel_rfl) ?_ _
     refine NoPanic.normal ?_
     clear hHeld hHeld2 hHeld3 HS2
     have HB4:Hid (Bl w v3):=Bl.tr HB.out HV3.out
     by_cases hyy:y1<y2
     ·go_wp2
      go_roundw
      case measure=>simp [intOf];omega
      case rel=>exact ⟨k+1,by omega,by simp,HB4.out,Or.inr ⟨k,rfl,HGD.out⟩⟩
     ·go_wp2
      go_roundw
      case measure=>simp [intOf];omega
      case rel=>exact ⟨k+1,by omega,by simp,HB4.out,Or.inr ⟨j,rfl,HBJ.out⟩⟩
   ·have hdI:¬ (dd:Int)<(Uv:Int):=by omega
    have HND:Hid (¬ c.dep<Uv):=by rw [←Edd.out];exact hd
    go_wp2_with fail
    refine wp_region_noPanic ?_
    refine wp_region_held_drew (S:=fun wz=>wz.cell? ⟨ab,so+k*8+6,none⟩=some (.int .i64 (dd:Int))∧wz.cell? ⟨cb,3,none⟩=some (.slice (some ⟨ub,0,none⟩) N N)∧wz.cell? ⟨ub,v,none⟩=some (.int .i64 (Uv:Int))) (by kernel_rfl) (by exact ⟨d6,d3,du⟩) (fun hHeld=>?_)
    refine tk 0 ?_
    refine tk 1 ?_
    refine tk 2 ?_
    refine tk 3 ?_
    refine tk 4 ?_
    refine tk 5 ?_
    refine tk 6 ?_
    refine tk 7 ?_
    refine tk 8 ?_
    refine tk 9 ?_
    refine tk 10 ?_
    refine tk 11 ?_
    refine tk 12 ?_
    refine tk 13 ?_
    refine tu 14 ?_
    refine tu 15 ?_
    refine tu 16 ?_
    refine tu 17 ?_
    refine tu 18 ?_
    refine tu 19 ?_
    refine tu 20 ?_
    refine tu 21 ?_
    refine tu 22 ?_
    refine tu 23 ?_
    refine tu 24 ?_
    refine tu 25 ?_
    refine tu 26 ?_
    refine tk 27 ?_
    refine wpAnyH_done (by kernel_rfl) ?_ _
    refine NoPanic.normal ?_
    clear hHeld
    go_wp2
    go_roundw
    case measure=>simp [intOf];omega
    case rel =>
     refine ⟨k+1,by omega,by simp,Below.drew HB.out,?_⟩
     rcases hbest with ⟨rfl,HBN⟩ | ⟨j,rfl,HBJ⟩
     ·exact Or.inl ⟨rfl,fun i c' hi hc'=>by
       by_cases e:i=k
       ·subst e;rw [HC.out] at hc';obtain rfl:=Option.some.inj hc';exact HND.out
       ·exact HBN.out i c' (by omega) hc'⟩
     ·exact Or.inr ⟨j,rfl,HBJ.out⟩
  ·have hge:¬ (k:Int)<(n1:Int):=by omega
   have hb2:∃ j c,u4 = .pointer (some ⟨ab,so+j*8,none⟩)∧ct[j]?=some c∧c.dep<Uv:=by
    rcases hbest with ⟨_,HBN⟩ | ⟨j,h1,HBJ⟩
    ·obtain ⟨c,hc,hd⟩:=HEX.out
     obtain ⟨i,hi⟩:=List.getElem?_of_mem hc
     have:=(List.getElem?_eq_some_iff.1 hi).1
     exact absurd hd (HBN.out i c (by have:=En1.out;omega) hi)
    ·obtain ⟨c,h2,h3⟩:=HBJ.out
     exact ⟨j,c,h1,h2,h3⟩
   obtain ⟨j,c,rfl,hcj,hdep⟩:=hb2
   have HCJ:=hidden hcj
   have HDP:=hidden hdep
   have hUv1:1≤Uv:=by omega
   have HCX:Hid (∀ u:World,Below C0 w u→CtAt u ab (so+j*8) c∧c.lv.length≤4∧c.tb<65536∧(∀ x,x ∈ c.lv→x<N)∧∀ x,x ∈ c.lv→x<v):=fun u hu=>HCT.out u hu j c HCJ.out
   obtain ⟨hat,hl4,htb,hlN,hlv⟩:=HCX.out wr (HBC.out wr HB.out)
   have WT:=hidden (weighty_any wr ab (so+j*8) c hat hl4 htb)
   have HWL:Hid (∀ p,p ∈ wtyL c→p<c.lv.length):=wtyL_lt
   have HW4:Hid ((wtyL c).length≤4):=Nat.le_trans (wtyL_len c) hl4
   have HLV:Hid (∀ k p x,(wtyL c)[k]?=some p→c.lv[p]?=some x→(lvW c).take (k+1)=(lvW c).take k++[x]):=fun k p x hk hx=>by
    have e:(lvW c)[k]?=some x:=by
     unfold lvW
     rw [List.getElem?_map,hk,Option.map_some,List.getD_eq_getElem?_getD,hx];rfl
    exact take_next _ _ _ e
   have HLL:Hid ((lvW c).length=(wtyL c).length):=List.length_map _
   have HLM:Hid (∀ x,x ∈ lvW c→x<v):=fun x hx=>by
    obtain ⟨p,hp,rfl⟩:=List.mem_map.1 hx
    have:=wtyL_lt p hp
    exact hlv _ (by rw [List.getD_eq_getElem?_getD,List.getElem?_eq_getElem this];exact List.getElem_mem _)
   have HLN:=hidden hlN
   clear hat hlN hlv hbest HCO hcj hdep HEX htb
   go_wp2_with fail
   go_at_call 60
   refine WT.out.mono ?_
   rintro e w2 ⟨pv,rfl,HOP,HBP⟩
   obtain ⟨pa,pc,hpv,-,-,-⟩:=own_num HOP.out
   subst hpv
   have HB2:Hid (Bl w w2):=Bl.tr HB.out HBP.out
   have HCV2:=hidden (HCV.out.to HB2.out)
   obtain ⟨np,Enp⟩:=exh (wtyL c).length
   rw [←Enp.out] at HW4 HLL HOP
   rw [←Enp.out]
   obtain ⟨t,Et⟩:=exh (Uv - 1)
   have hlt4:∀ k,gv.ownBlock=some k→k<w.heap.size:=own_lt HCV.out.og
   have HG1:=hidden hlt4
   have HG2:Hid (∀ k,lv.ownBlock=some k→k<w.heap.size):=own_lt HCV.out.ol
   have HG3:Hid (∀ k,ev.ownBlock=some k→k<w.heap.size):=own_lt HCV.out.oe
   have HG4:Hid (∀ k,bv.ownBlock=some k→k<w.heap.size):=own_lt HCV.out.ob
   have HOP2:Hid (w2.ownsRow w.heap.size 3 1 (.slice pa np pc) np ((wtyL c).map nV)):=own_mono HOP.out HB.out.size
   clear WT HBP HOP hlt4 HB
   go_wp2_with fail
   go_loopw [7,9,59] (fun l' _ i' w'=>∃ k:Nat,k≤np∧i' = .int .i64 (k:Int)∧Hid (k=0→l' = .slice none 0 0)∧Hid (w'.ownsRow w.heap.size 3 1 l' k (((lvW c).take k).map nV))∧Hid (w'.ownsRow w.heap.size 3 1 (.slice pa np pc) np ((wtyL c).map nV))∧Hid (FaV l' (.slice pa np pc))∧Hid (CvAt C w' D (needs U ((lvW c).take k) t) gs Ls bs gv lv ev bv)∧Hid (Below C0 w w')) (fun _ _ i' _=>np - (intOf i').toNat)
   case atStart=>exact ⟨0,Nat.zero_le _,rfl,fun _=>rfl,own_nil _ _ _ _,HOP2.out,FaV.nil _,HCV2.out,HBC.out _ HB2.out⟩
   case round =>
    clear HOP2 HCV2 HB2
    obtain ⟨k,hk,rfl,HK0,HO,HP,HFA,HCK,HB⟩:=hrel
    by_cases hlk:k<np
    ·have hlkI:(k:Int)<(np:Int):=by omega
     obtain ⟨p,hp⟩:=getElem_lt (show k<(wtyL c).length by rw [←Enp.out];exact hlk)
     obtain ⟨u,hu⟩:=getElem_lt (HWL.out p (List.mem_of_getElem? hp))
     obtain ⟨pa',pc',hpp,-,hnr,-⟩:=own_num HP.out
     obtain ⟨rfl,rfl⟩:pa=pa'∧pc=pc':=by simpa using hpp
     obtain ⟨bp,op,ea,cp⟩:=hnr k p hp
     have HNX:=hidden (HLV.out k p u hp hu)
     have hpl:=HWL.out p (List.mem_of_getElem? hp)
     have hp4:(p:Int)<4:=by omega
     have hk4:k≤4:=by have:=HW4.out;omega
     have e2:IntKind.i64.wrap ((k:Int)+1)=(k:Int)+1:=wrapI _ (by omega) (by omega)
     have HLU:Hid (∀ x:World,Below C0 w x→x.cell? ⟨ab,so+j*8+p,none⟩=some (.int .i64 (u:Nat))):=fun x hx=>(HCX.out x hx).1.leaf hl4 hu
     have cu:=HLU.out wr HB.out
     have huN:=HLN.out u (List.mem_of_getElem? hu)
     have HUV:Hid (∀ l,l=(lvW c).take k→needs U l t v=Uv):=fun l hl=>by
      rw [needs_ne (fun hm=>by rw [hl] at hm;have:=HLM.out v (List.mem_of_mem_take hm);omega),EUv.out]
     have e3:IntKind.i64.wrap ((Uv:Int) - 1)=(t:Int):=by rw [wrapI _ (by omega) (by omega),Et.out];omega
     have hsz:w.heap.size≤wr.heap.size+1:=by
      have:=HB.out.size;omega
     subst ea
     clear hp hu hpp hnr
     have tok:True:=trivial
     go_upto_region 13 with (have _t:=tok;at_builtin;(refine app_int _ rfl (.tmp 63) (.tmp 70) rfl w.heap.size u7 k _ rfl (HO.out.alloc _) ⟨wr.heap.size,0,none⟩ (u:Int) rfl (by rw [cell_new rfl];rfl) (by omega) (by simpa using hsz) ?_;intro g6 c6 w6 hown hgrow hplace;have HO6:=hidden hown;have HG6:=hidden (grow_alloc hgrow);have HP6:Hid (u7.ownBlock=some g6∨g6=wr.heap.size+1):=(by rcases hplace with h | h;exact Or.inl h;exact Or.inr (by rw [h];simp));clear tok hown hgrow hplace))
     have HP7:=hidden (own_kept HP.out HG6.out HFA.out.or)
     have HFA7:Hid (FaV (.slice (some ⟨g6,0,none⟩) (k+1) c6) (.slice (some ⟨bp,op,none⟩) np pc)):=HFA.out.new HP.out (Nat.le_succ _) (place_of HP6.out)
     have HCK7:=hidden (HCK.out.grow HG6.out (own_newB HO.out) (Nat.le_trans HCV.out.le (Nat.le_refl _)) HG1.out HG2.out HG3.out HG4.out)
     have HB7:Hid (Below C0 w w6):=HB.out.trans (grow_low HG6.out (Nat.le_trans hC0 HB.out.size) (fun x hx=>Nat.le_trans hC0 (own_newB HO.out x hx)))
     have hcu:=HLU.out w6 HB7.out
     have hc3:w6.cell? ⟨cb,3,none⟩=some (.slice (some ⟨ub,0,none⟩) N N):=by rw [Ecb.out,Eub.out,ENN.out];exact HCK7.out.ch.bk.cell (i:=3) rfl
     have hcv:w6.cell? ⟨ub,v,none⟩=some (.int .i64 (Uv:Nat)):=by
      rw [Eub.out,←HUV.out _ rfl]
      exact HCK7.out.ch.un.cell (tab_get (by rw [HN.out];exact hv))
     have HND:Hid (∀ x:World,Bl w6 x→Calls Try.prog 61 #[.pointer (some ⟨cb,0,none⟩),.int .i64 (u:Nat),.int .i64 (t:Nat)] x fun e w'=>(∃ y,e = .returned y)∧Hid (ChAt w' D (needs U ((lvW c).take (k+1)) t) gv lv ev bv)∧Hid (But D.ub x w')):=fun x hx=>by
      rw [HNX.out,needs_snoc,Ecb.out]
      exact need_any x D _ gv lv ev bv (HCK7.out.ch.to hx) u t (by rw [←ENN.out];exact huN)
     have HUV2:Hid (needs U ((lvW c).take (k+1)) t v=Uv):=by
      show _=_
      rw [needs_ne (fun hm=>by have:=HLM.out v (List.mem_of_mem_take hm);omega),EUv.out]
     clear HO HP HFA HCK HB HG6 cu cp
     refine wp_region_noPanic ?_
     refine wp_region_held_drew (S:=fun wz=>wz.cell? ⟨ab,so+j*8+p,none⟩=some (.int .i64 (u:Int))∧wz.cell? ⟨cb,3,none⟩=some (.slice (some ⟨ub,0,none⟩) N N)∧wz.cell? ⟨ub,v,none⟩=some (.int .i64 (Uv:Int))) (by kernel_rfl) (by exact ⟨hcu,hc3,hcv⟩) (fun hHeld=>?_)
     refine tk 0 ?_
     refine tk 1 ?_
     refine tk 2 ?_
     refine tk 3 ?_
     refine tk 4 ?_
     refine tk 5 ?_
     refine tk 6 ?_
     refine tk 7 ?_
     refine tk 8 ?_
     refine tk 9 ?_
     refine tk 10 ?_
     refine tk 11 ?_
     refine tk 12 ?_
     refine tk 13 ?_
     refine tk 14 ?_
     refine rd 15 fun K hK=>?_
     (try simp only [gA,gB,gC]);go_simp
     go_at_call 61
     refine (HND.out w6.drew (Below.drew (Below.refl _ _))).mono ?_
     rintro e w8 ⟨⟨y8,rfl⟩,HC8,HBT8⟩
     have HBT9:Hid (But D.ub w6 w8):=⟨HBT8.out.os,HBT8.out.tape,HBT8.out.output,HBT8.out.size,HBT8.out.block⟩
     have HCK8:=hidden (HCK7.out.need HC8.out HBT9.out)
     have HB8:Hid (Below C0 w w8):=HB7.out.trans (HBT9.out.below hE.le.2.2 (Nat.le_trans hC0 HB7.out.size))
     have HUC:Hid (D.ub<w.heap.size):=Nat.lt_of_lt_of_le HCV.out.lt.2.2 HCV.out.le
     have HO8:=hidden (own_kept HO6.out HBT9.out.grown (new_ne (own_newB HO6.out) HUC.out))
     have HP8:=hidden (own_kept HP7.out HBT9.out.grown (new_ne (own_newB HP7.out) HUC.out))
     go_wp2_with fail
     refine wo hK ⟨HLU.out w8 HB8.out,by rw [Ecb.out,Eub.out,ENN.out];exact HC8.out.bk.cell (i:=3) rfl,by rw [Eub.out,←HUV2.out];exact HC8.out.un.cell (tab_get (by rw [HN.out];exact hv))⟩ fun hHeld2=>?_
     clear hK K
     refine wpAnyH_done (by kernel_rfl) ?_ _
     refine NoPanic.normal ?_
     clear hHeld hHeld2 hcu hc3 hcv HND HCK7 HB7 HO6 HP7 HC8 HBT8 HBT9
     go_wp2
     go_roundw
     case measure=>simp [intOf];omega
     case rel=>exact ⟨k+1,by omega,by simp,fun h=>absurd h (by omega),by rw [HNX.out,List.map_append];exact HO8.out,HP8.out,HFA7.out,HCK8.out,HB8.out⟩
    ·have hge2:¬ (k:Int)<(np:Int):=by omega
     have hkn:(lvW c).take k=lvW c:=List.take_of_length_le (by rw [HLL.out];omega)
     have hkk:k=np:=by omega
     have HCK9:Hid (CvAt C wr D (needs U (lvW c) t) gs Ls bs gv lv ev bv):=by rw [←hkn];exact HCK.out
     have HO9:Hid (wr.ownsRow w.heap.size 3 1 u7 np ((lvW c).map nV)):=by rw [←hkn,←hkk];exact HO.out
     have HK9:Hid (lvW c=[]→u7 = .slice none 0 0):=fun e=>HK0.out (by rw [hkk,←HLL.out,e];rfl)
     clear HO HP HFA HCK hkn hkk HK0
     obtain ⟨ls,Els⟩:=exh (lvW c)
     rw [←Els.out] at HCK9 HO9 HK9 HLL
     obtain ⟨U2,EU2⟩:=exh (needs U ls t)
     rw [←EU2.out] at HCK9
     have z4:wr.cell? ⟨cb,4,none⟩=some gv:=by rw [Ecb.out];exact HCK9.out.ch.bk.cell (i:=4) rfl
     obtain ⟨w4,Ew4⟩:=exh (wr.alloc (.cells #[.int .i64 (v:Int)] 3))
     have HV4:Hid (Bl wr w4):=by rw [Ew4.out];exact (Below.refl _ _).alloc (Nat.le_refl _) _
     have HC4:Hid (w4.cell? ⟨wr.heap.size,0,none⟩=some (.int .i64 (v:Int))):=by
      show _=_
      rw [Ew4.out,cell_new rfl];rfl
     have HO4:Hid (w4.ownsRow C 3 1 gv gs.length (gs.map nV)):=own_below HCK9.out.og HV4.out
     have hC4:C≤w4.heap.size:=Nat.le_trans HCK9.out.le HV4.out.size
     have HNC:Hid (some D.cb≠gv.ownBlock):=fun e=>by have:=own_newB HCK9.out.og D.cb e.symm;have:=HCK9.out.lt.1;omega
     have hgl:gs.length≤1000000000000:=by omega
     have HR5:Hid (∀ g5 c5 w5,w5.ownsRow C 3 1 (.slice (some ⟨g5,0,none⟩) (gs.length+1) c5) (gs.length+1) (gs.map nV++[.int .i64 (v:Int)])→w4.grownBy w5 gv.ownBlock→(gv.ownBlock=some g5∨g5=w4.heap.size)→(w5.cell? ⟨cb,4,none⟩=some gv∧w5.frozen? ⟨cb,4,none⟩=false)∧Calls Try.prog 62 #[.pointer (some ⟨cb,5,none⟩),u7] (w5.setCell ⟨cb,4,none⟩ (.slice (some ⟨g5,0,none⟩) (gs.length+1) c5)) fun e w'=>(∃ x,e = .returned x)∧∃ gv' lv' ev',Hid (CvAt C w' D U2 (gs++[v]) (Ls++[ls]) bs gv' lv' ev' bv)∧Hid (Below C0 w w')):=fun g5 c5 w5 hown hgrow hplace=>by
      have hb5:=blk_kept (HCK9.out.ch.bk.below HV4.out) hgrow HNC.out
      refine ⟨by rw [Ecb.out];exact ⟨hb5.cell (i:=4) rfl,hb5.frozen 4⟩,?_⟩
      have hcv:=HCK9.out.gates HV4.out hgrow hown hplace HV4.out.size
      have hg6:=(But.set D.cb 4 w5 (.slice (some ⟨g5,0,none⟩) (gs.length+1) c5)).grown
      have hC0C:C0≤C:=Nat.le_trans hE.le.1 (Nat.le_of_lt HCK9.out.lt.1)
      have hUC:D.cb<w.heap.size:=Nat.lt_of_lt_of_le HCV.out.lt.1 HCV.out.le
      have hbw6:Below C0 w (w5.setCell ⟨D.cb,4,none⟩ (.slice (some ⟨g5,0,none⟩) (gs.length+1) c5)):=by
       have b1:Below C0 w w4:=HB.out.trans (HV4.out.mono (Nat.le_trans hC0 HB.out.size))
       have b2:Below C0 w4 w5:=grow_low hgrow (Nat.le_trans hC0 b1.size) (fun k hk=>Nat.le_trans hC0C (own_newB HCK9.out.og k hk))
       have b3:=(But.set D.cb 4 w5 (.slice (some ⟨g5,0,none⟩) (gs.length+1) c5)).below hE.le.1 (Nat.le_trans hC0 (b1.trans b2).size)
       exact b1.trans (b2.trans b3)
      have ho6:(w5.setCell ⟨D.cb,4,none⟩ (.slice (some ⟨g5,0,none⟩) (gs.length+1) c5)).ownsRow w.heap.size 3 1 u7 np (ls.map nV):=by
       refine own_kept (own_kept (own_below HO9.out HV4.out) hgrow ?_) hg6 (new_ne (own_newB HO9.out) hUC)
       cases e:u7.ownBlock with
       | none=>exact Or.inl rfl
       | some k=>exact Or.inr (fun e2=>by have h1:=own_newB HO9.out k e;have h2:=HG1.out k e2.symm;omega)
      obtain ⟨la,lc,hu7,hnl,hnr,_⟩:=own_num ho6
      have hbl:∀ b o,la=some ⟨b,o,none⟩→b<(w5.setCell ⟨D.cb,4,none⟩ (.slice (some ⟨g5,0,none⟩) (gs.length+1) c5)).heap.size:=fun b o e=>own_lt ho6 b (by rw [hu7,e];rfl)
      have hni:ls=[]→la=none∧lc=0:=fun e=>by
       have h1:=HK9.out e
       rw [hu7] at h1
       simp only [Value.slice.injEq] at h1
       exact ⟨h1.1,h1.2.2⟩
      have hls:ls.length≤4:=by rw [HLL.out];exact HW4.out
      rw [Ecb.out,hu7,hnl]
      refine (addI_any C _ D.cb _ _ _ _ _ _ lv ev Ls 89 hcv.ch.bk HCK9.out.lt.1 hcv.le hcv.ol hcv.oe hcv.f4 la lc ls hnr hbl hni (by omega) (by omega)).mono ?_
      intro e w' hadd
      obtain ⟨hx,lv',ev',hc',hfr',s1,s2,s3,s4⟩:=hcv.leaves hadd
      refine ⟨hx,_,lv',ev',hc',hbw6.trans ⟨s2,s3,s4,s1,fun k hk=>hfr' k (Nat.lt_of_lt_of_le hk (Nat.le_trans hC0 hbw6.size)) (by have:=hE.le.1;omega) (fun e=>by have:=own_newB hcv.ol k e.symm;omega) (fun e=>by have:=own_newB hcv.oe k e.symm;omega)⟩⟩
     clear HO9 HK9
     have tok:True:=trivial
     go_upto_region 16 with (have _t:=tok;at_builtin;(rw [←Ew4.out];refine app_int _ rfl (.tmp 94) (.tmp 96) rfl C gv gs.length _ rfl HO4.out ⟨wr.heap.size,0,none⟩ (v:Int) rfl HC4.out hgl hC4 ?_;intro g5 c5 w5 hown hgrow hplace;obtain ⟨⟨y4,f4⟩,hcall⟩:=HR5.out g5 c5 w5 hown hgrow hplace;have HCA:=hidden hcall;clear tok hown hgrow hplace hcall HR5))
     clear HCK9 HB HV4 HC4 HO4 HNC
     go_wp2_with fail
     go_at_call 62
     refine HCA.out.mono ?_
     rintro e w7 ⟨⟨y7,rfl⟩,gv7,lv7,ev7,HC7,HB7⟩
     have HQB:Hid (∀ x:World,Bl w7 x→CtAt x ab (so+j*8) c):=fun x hx=>(HCX.out x (HB7.out.trans (hx.mono (Nat.le_trans hC0 HB7.out.size)))).1
     have z7d:w7.drew.cell? ⟨cb,7,none⟩=some bv:=by rw [Ecb.out];exact HC7.out.ch.bk.cell (i:=7) rfl
     have HZ7:Hid (∀ x:World,Bl w7 x→x.cell? ⟨cb,7,none⟩=some bv):=fun x hx=>by rw [Ecb.out];exact (HC7.out.ch.to hx).bk.cell (i:=7) rfl
     have htb2:=(HCX.out w7 HB7.out).2.2.1
     have WT2:Hid (∀ x:World,Bl w7 x→Calls Try.prog 60 #[.pointer (some ⟨ab,so+j*8,none⟩)] x fun e w'=>∃ v,e = .returned v∧Hid (w'.ownsRow x.heap.size 3 1 v (wtyL c).length ((wtyL c).map nV))∧Hid (Bl x w')):=fun x hx=>weighty_any x ab (so+j*8) c (HQB.out x hx) hl4 htb2
     obtain ⟨B,EB⟩:=exh (bitT (wtyL c) c.tb)
     have BI2:Hid (∀ (x:World) (pa:Option Addr) (pc:Nat),Bl w7 x→NumR x pa (wtyL c)→Calls Try.prog 63 #[.pointer (some ⟨ab,so+j*8,none⟩),.slice pa np pc] x fun e w'=>e = .returned (.int .i64 (B:Nat))∧w'=x):=fun x pa pc hx hn=>by
      rw [EB.out,Enp.out]
      exact bits_any x ab (so+j*8) c (HQB.out x hx) pa pc (wtyL c) (by rw [←Enp.out];exact HW4.out) hn (fun p hp=>by have:=HWL.out p hp;omega) htb2
     have HFI:Hid (∀ (xa:World) (g5 c5:Nat) (w5:World),Bl w7 xa→w5.ownsRow C 3 1 (.slice (some ⟨g5,0,none⟩) (bs.length+1) c5) (bs.length+1) (bs.map nV++[.int .i64 (B:Int)])→xa.grownBy w5 bv.ownBlock→(bv.ownBlock=some g5∨g5=xa.heap.size)→(w5.cell? ⟨cb,7,none⟩=some bv∧w5.frozen? ⟨cb,7,none⟩=false)∧∃ c' gv' lv' ev' bv',(∃ x,Ending.returned (.tuple #[]) = .returned x)∧c' ∈ ct∧c'.dep<Uv∧Hid (CvAt C (w5.setCell ⟨cb,7,none⟩ (.slice (some ⟨g5,0,none⟩) (bs.length+1) c5)) D (needs U (lvW c') (Uv - 1)) (gs++[v]) (Ls++[lvW c']) (bs++[bitT (wtyL c') c'.tb]) gv' lv' ev' bv')∧Hid (Below C0 w (w5.setCell ⟨cb,7,none⟩ (.slice (some ⟨g5,0,none⟩) (bs.length+1) c5)))):=fun xa g5 c5 w5 hx hown hgrow hplace=>by
      have hnb:some D.cb≠bv.ownBlock:=fun e=>by have:=own_newB HC7.out.ob D.cb e.symm;have:=HC7.out.lt.1;omega
      have hb5:=blk_kept (HC7.out.ch.bk.below hx) hgrow hnb
      have hC0C:C0≤C:=Nat.le_trans hE.le.1 (Nat.le_of_lt HC7.out.lt.1)
      refine ⟨by rw [Ecb.out];exact ⟨hb5.cell (i:=7) rfl,hb5.frozen 7⟩,c,gv7,lv7,ev7,.slice (some ⟨g5,0,none⟩) (bs.length+1) c5,⟨_,rfl⟩,List.mem_of_getElem? HCJ.out,HDP.out,?_,?_⟩
      ·rw [←Els.out,←Et.out,←EU2.out,←EB.out,Ecb.out]
       exact HC7.out.bits hx hgrow hown hplace hx.size
      ·rw [Ecb.out]
       have b1:Below C0 w xa:=HB7.out.trans (hx.mono (Nat.le_trans hC0 HB7.out.size))
       have b2:Below C0 xa w5:=grow_low hgrow (Nat.le_trans hC0 b1.size) (fun k hk=>Nat.le_trans hC0C (own_newB HC7.out.ob k hk))
       exact b1.trans (b2.trans ((But.set D.cb 7 w5 (.slice (some ⟨g5,0,none⟩) (bs.length+1) c5)).below hE.le.1 (Nat.le_trans hC0 (b1.trans b2).size)))
     have HQ:Hid (Bl w7 w7.drew):=Below.drew (Below.refl _ _)
     have HOB:Hid (∀ x:World,Bl w7 x→x.ownsRow C 3 1 bv bs.length (bs.map nV)):=fun x hx=>own_below HC7.out.ob hx
     have hC7:C≤w7.heap.size:=HC7.out.le
     have hbl:bs.length≤1000000000000:=by omega
     clear HCA y4 f4
     go_wp2_with fail
     refine wp_region_noPanic ?_
     refine wp_region_held_drew (S:=fun wz=>True) (by kernel_rfl) (by exact True.intro) (fun hHeld=>?_)
     refine tk 0 ?_
     refine tk 1 ?_
     refine tk 2 ?_
     refine tk 3 ?_
     refine tk 4 ?_
     refine tk 6 ?_
     refine tk 7 ?_
     have zz:w7.drew.cell? ⟨cb,7,none⟩=some bv:=HZ7.out _ HQ.out
     refine wpAnyH_ready (rs:=[5,8]) (by kernel_rfl) (by simp) ?_
     refine AllReadyH.cons (o:=_) rfl (fun K hK=>?_) (AllReadyH.cons (o:=_) rfl (fun K hK=>?_) AllReadyH.nil)
     ·(try simp only [gA,gB,gC]);go_simp
      refine wo hK True.intro fun _=>?_
      clear hK K
      refine rd 8 fun K hK=>?_
      (try simp only [gA,gB,gC]);go_simp
      go_at_call 60
      refine (WT2.out _ HQ.out).mono ?_
      rintro e xa ⟨va,rfl,HOa,HBa⟩
      obtain ⟨pa2,pc2,hva,-,hnr,-⟩:=own_num HOa.out
      subst hva
      have HNR2:=hidden hnr
      replace HQ:Hid (Bl w7 xa):=Bl.tr HQ.out HBa.out
      rw [←Enp.out]
      clear hnr HOa HBa
      go_wp2_with fail
      refine wo hK True.intro fun _=>?_
      clear hK K
      refine rd 9 fun K hK=>?_
      (try simp only [gA,gB,gC]);go_simp
      go_at_call 63
      refine (BI2.out _ pa2 pc2 HQ.out HNR2.out).mono ?_
      rintro e xb ⟨rfl,hxb⟩
      rw [hxb]
      clear hxb xb
      go_wp2_with fail
      refine wo hK True.intro fun _=>?_
      clear hK K
      refine rd 10 fun K hK=>?_
      (try simp only [gA,gB,gC]);go_simp
      have HCY:Hid ((xa.alloc (.cells #[.int .i64 (B:Int)] 3)).cell? ⟨xa.heap.size,0,none⟩=some (.int .i64 (B:Int))):=by
       show _=_
       rw [cell_new rfl];rfl
      replace HQ:Hid (Bl w7 (xa.alloc (.cells #[.int .i64 (B:Int)] 3))):=Bl.tr HQ.out ((Below.refl _ _).alloc (Nat.le_refl _) _)
      obtain ⟨hx9,Ehx9⟩:=exh xa.heap.size
      rw [←Ehx9.out] at HCY
      rw [←Ehx9.out]
      generalize xa.alloc (.cells #[.int .i64 (B:Int)] 3)=xc at *
      refine wo hK True.intro fun _=>?_
      clear hK K
      refine rd 11 fun K hK=>?_
      refine step_int _ rfl (.tmp 112) (.tmp 117) rfl C bv bs.length _ rfl (HOB.out _ HQ.out) ⟨hx9,0,none⟩ (B:Int) rfl HCY.out hbl (Nat.le_trans hC7 HQ.out.size) ?_
      intro g5 c5 w5 hown hgrow hplace
      obtain ⟨⟨y7,f7⟩,hfin⟩:=HFI.out _ g5 c5 w5 HQ.out hown hgrow hplace
      have HFF2:=hidden hfin
      clear hown hgrow hplace hfin HFI
      refine wo hK True.intro fun _=>?_
      clear hK K
      refine tk 12 ?_
      refine tk 13 ?_
      refine tk 14 ?_
      refine rd 15 fun K hK=>?_
      (try simp only [gA,gB,gC]);go_simp
      refine wo hK True.intro fun _=>?_
      clear hK K
      refine wpAnyH_done (by kernel_rfl) ?_ _
      refine NoPanic.normal ?_
      go_wp2_with fail
      go_end0
      exact HFF2.out
     ·clear zz
      (try simp only [gA,gB,gC]);go_simp
      go_at_call 60
      refine (WT2.out _ HQ.out).mono ?_
      rintro e xa ⟨va,rfl,HOa,HBa⟩
      obtain ⟨pa2,pc2,hva,-,hnr,-⟩:=own_num HOa.out
      subst hva
      have HNR2:=hidden hnr
      replace HQ:Hid (Bl w7 xa):=Bl.tr HQ.out HBa.out
      rw [←Enp.out]
      clear hnr HOa HBa
      go_wp2_with fail
      refine wo hK True.intro fun _=>?_
      clear hK K
      have zz:xa.cell? ⟨cb,7,none⟩=some bv:=HZ7.out _ HQ.out
      refine wpAnyH_ready (rs:=[5,9]) (by kernel_rfl) (by simp) ?_
      refine AllReadyH.cons (o:=_) rfl (fun K hK=>?_) (AllReadyH.cons (o:=_) rfl (fun K hK=>?_) AllReadyH.nil)
      ·(try simp only [gA,gB,gC]);go_simp
       refine wo hK True.intro fun _=>?_
       clear hK K
       refine rd 9 fun K hK=>?_
       (try simp only [gA,gB,gC]);go_simp
       go_at_call 63
       refine (BI2.out _ pa2 pc2 HQ.out HNR2.out).mono ?_
       rintro e xb ⟨rfl,hxb⟩
       rw [hxb]
       clear hxb xb
       go_wp2_with fail
       refine wo hK True.intro fun _=>?_
       clear hK K
       refine rd 10 fun K hK=>?_
       (try simp only [gA,gB,gC]);go_simp
       have HCY:Hid ((xa.alloc (.cells #[.int .i64 (B:Int)] 3)).cell? ⟨xa.heap.size,0,none⟩=some (.int .i64 (B:Int))):=by
        show _=_
        rw [cell_new rfl];rfl
       replace HQ:Hid (Bl w7 (xa.alloc (.cells #[.int .i64 (B:Int)] 3))):=Bl.tr HQ.out ((Below.refl _ _).alloc (Nat.le_refl _) _)
       obtain ⟨hx9,Ehx9⟩:=exh xa.heap.size
       rw [←Ehx9.out] at HCY
       rw [←Ehx9.out]
       generalize xa.alloc (.cells #[.int .i64 (B:Int)] 3)=xc at *
       refine wo hK True.intro fun _=>?_
       clear hK K
       refine rd 11 fun K hK=>?_
       refine step_int _ rfl (.tmp 112) (.tmp 117) rfl C bv bs.length _ rfl (HOB.out _ HQ.out) ⟨hx9,0,none⟩ (B:Int) rfl HCY.out hbl (Nat.le_trans hC7 HQ.out.size) ?_
       intro g5 c5 w5 hown hgrow hplace
       obtain ⟨⟨y7,f7⟩,hfin⟩:=HFI.out _ g5 c5 w5 HQ.out hown hgrow hplace
       have HFF2:=hidden hfin
       clear hown hgrow hplace hfin HFI
       refine wo hK True.intro fun _=>?_
       clear hK K
       refine tk 12 ?_
       refine tk 13 ?_
       refine tk 14 ?_
       refine rd 15 fun K hK=>?_
       (try simp only [gA,gB,gC]);go_simp
       refine wo hK True.intro fun _=>?_
       clear hK K
       refine wpAnyH_done (by kernel_rfl) ?_ _
       refine NoPanic.normal ?_
       go_wp2_with fail
       go_end0
       exact HFF2.out
      ·clear zz
       (try simp only [gA,gB,gC]);go_simp
       go_at_call 63
       refine (BI2.out _ pa2 pc2 HQ.out HNR2.out).mono ?_
       rintro e xb ⟨rfl,hxb⟩
       rw [hxb]
       clear hxb xb
       go_wp2_with fail
       refine wo hK True.intro fun _=>?_
       clear hK K
       have zz:xa.cell? ⟨cb,7,none⟩=some bv:=HZ7.out _ HQ.out
       refine wpAnyH_ready (rs:=[5,10]) (by kernel_rfl) (by simp) ?_
       refine AllReadyH.cons (o:=_) rfl (fun K hK=>?_) (AllReadyH.cons (o:=_) rfl (fun K hK=>?_) AllReadyH.nil)
       ·(try simp only [gA,gB,gC]);go_simp
        refine wo hK True.intro fun _=>?_
        clear hK K
        refine rd 10 fun K hK=>?_
        (try simp only [gA,gB,gC]);go_simp
        have HCY:Hid ((xa.alloc (.cells #[.int .i64 (B:Int)] 3)).cell? ⟨xa.heap.size,0,none⟩=some (.int .i64 (B:Int))):=by
         show _=_
         rw [cell_new rfl];rfl
        replace HQ:Hid (Bl w7 (xa.alloc (.cells #[.int .i64 (B:Int)] 3))):=Bl.tr HQ.out ((Below.refl _ _).alloc (Nat.le_refl _) _)
        obtain ⟨hx9,Ehx9⟩:=exh xa.heap.size
        rw [←Ehx9.out] at HCY
        rw [←Ehx9.out]
        generalize xa.alloc (.cells #[.int .i64 (B:Int)] 3)=xc at *
        refine wo hK True.intro fun _=>?_
        clear hK K
        refine rd 11 fun K hK=>?_
        refine step_int _ rfl (.tmp 112) (.tmp 117) rfl C bv bs.length _ rfl (HOB.out _ HQ.out) ⟨hx9,0,none⟩ (B:Int) rfl HCY.out hbl (Nat.le_trans hC7 HQ.out.size) ?_
        intro g5 c5 w5 hown hgrow hplace
        obtain ⟨⟨y7,f7⟩,hfin⟩:=HFI.out _ g5 c5 w5 HQ.out hown hgrow hplace
        have HFF2:=hidden hfin
        clear hown hgrow hplace hfin HFI
        refine wo hK True.intro fun _=>?_
        clear hK K
        refine tk 12 ?_
        refine tk 13 ?_
        refine tk 14 ?_
        refine rd 15 fun K hK=>?_
        (try simp only [gA,gB,gC]);go_simp
        refine wo hK True.intro fun _=>?_
        clear hK K
        refine wpAnyH_done (by kernel_rfl) ?_ _
        refine NoPanic.normal ?_
        go_wp2_with fail
        go_end0
        exact HFF2.out
       ·clear zz
        (try simp only [gA,gB,gC]);go_simp
        have HCY:Hid ((xa.alloc (.cells #[.int .i64 (B:Int)] 3)).cell? ⟨xa.heap.size,0,none⟩=some (.int .i64 (B:Int))):=by
         show _=_
         rw [cell_new rfl];rfl
        replace HQ:Hid (Bl w7 (xa.alloc (.cells #[.int .i64 (B:Int)] 3))):=Bl.tr HQ.out ((Below.refl _ _).alloc (Nat.le_refl _) _)
        obtain ⟨hx9,Ehx9⟩:=exh xa.heap.size
        rw [←Ehx9.out] at HCY
        rw [←Ehx9.out]
        generalize xa.alloc (.cells #[.int .i64 (B:Int)] 3)=xc at *
        refine wo hK True.intro fun _=>?_
        clear hK K
        have zz:xc.cell? ⟨cb,7,none⟩=some bv:=HZ7.out _ HQ.out
        refine rd 5 fun K hK=>?_
        (try simp only [gA,gB,gC]);go_simp
        refine wo hK True.intro fun _=>?_
        clear hK K
        refine rd 11 fun K hK=>?_
        refine step_int _ rfl (.tmp 112) (.tmp 117) rfl C bv bs.length _ rfl (HOB.out _ HQ.out) ⟨hx9,0,none⟩ (B:Int) rfl HCY.out hbl (Nat.le_trans hC7 HQ.out.size) ?_
        intro g5 c5 w5 hown hgrow hplace
        obtain ⟨⟨y7,f7⟩,hfin⟩:=HFI.out _ g5 c5 w5 HQ.out hown hgrow hplace
        have HFF2:=hidden hfin
        clear hown hgrow hplace hfin HFI
        refine wo hK True.intro fun _=>?_
        clear hK K
        refine tk 12 ?_
        refine tk 13 ?_
        refine tk 14 ?_
        refine rd 15 fun K hK=>?_
        (try simp only [gA,gB,gC]);go_simp
        refine wo hK True.intro fun _=>?_
        clear hK K
        refine wpAnyH_done (by kernel_rfl) ?_ _
        refine NoPanic.normal ?_
        go_wp2_with fail
        go_end0
        exact HFF2.out
end Go.Proofs.Ytlaljeobdddegaa
