import Derived.Test.YtlaljeobdddegaaJ40
namespace Go.Proofs.Ytlaljeobdddegaa
open Go.RowKit Mp
theorem full_blk {w:World} {B g n sz:Nat} {e:TypeId} {xs:List Value} (h:w.ownsRow B e sz (.slice (some ⟨g,0,none⟩) n n) n xs):Blk w g e xs.toArray:=by
 rcases h.2 with ⟨h',_⟩ | ⟨g',cap',cur,h',_,hh,_,_,hcs,htake⟩
 ·simp at h'
 ·simp only [Value.slice.injEq,Option.some.injEq,Addr.mk.injEq,and_true,true_and] at h'
  obtain ⟨rfl,rfl⟩:=h'
  show _=_
  rw [hh]
  rw [List.take_of_length_le (by rw [Array.length_toList,hcs];exact Nat.le_refl _)] at htake
  rw [←htake]
theorem made_i64 (n:Nat):(madeCells (Value.int .i64 0).cells (n*1)).toList=tabL n fun _=>Value.int .i64 0:=by
 rw [Nat.mul_one]
 apply List.ext_getElem?
 intro i
 by_cases h:i<n
 ·rw [tabL_get h];simp [madeCells,Value.cells,h,Nat.mod_one]
 ·rw [List.getElem?_eq_none (by simp [madeCells];omega),List.getElem?_eq_none (by rw [tabL_len];omega)]
theorem newL {w:World} {cc:Nat} (hcc:cc≤60000):∃ w',(Instr.makeSlice 24 (.int .i64 (cc:Int)) (.int .i64 (cc:Int))).run Try.prog w = .ok (.slice (some ⟨w.heap.size,0,none⟩) cc cc) w'∧Blk w' w.heap.size 3 (tabL cc fun _=>.int .i64 0).toArray∧Below w.heap.size w w':=by
 obtain ⟨ib,hib,hzb,hsb,hbb⟩:=info_n
 obtain ⟨w',hr,h3,h4⟩:=run_make_full (P:=Try.prog) w w.heap.size 24 3 ib (.int .i64 0) 1 Try.underlying24 hib hzb hsb .i64 .i64 cc (by rw [hbb];omega) (by simp only [maxLen];omega) (Nat.le_refl _)
 refine ⟨w',hr,?_,none_below h4⟩
 have:=full_blk h3
 rw [made_i64] at this
 exact this
theorem upd_int (f:Nat→Int) (v:Nat) (z:Int):upd (fun v=>Value.int .i64 (f v)) v (.int .i64 z)=fun u=>Value.int .i64 (upd f v z u):=by
 funext u;unfold upd;split <;> rfl
def AnyB (w:World) (b N:Nat):Prop:=∃ f:Nat→Int,Blk w b 3 (tabL N fun v=>.int .i64 (f v)).toArray
theorem AnyB.set {w:World} {b N:Nat} (h:AnyB w b N) (v:Nat) (z:Int):AnyB (w.setCell ⟨b,v,none⟩ (.int .i64 z)) b N:=by
 obtain ⟨f,hf⟩:=h
 have:=hf.set v (.int .i64 z)
 rw [tab_set,upd_int] at this
 exact ⟨_,this⟩
theorem AnyB.to {w w':World} {b N:Nat} (h:AnyB w b N) (hb:Bl w w'):AnyB w' b N:=by
 obtain ⟨f,hf⟩:=h
 exact ⟨f,hf.below hb⟩
theorem AnyB.cell {w:World} {b N:Nat} (h:AnyB w b N) {v:Nat} (hv:v<N):∃ z:Int,w.cell? ⟨b,v,none⟩=some (.int .i64 z)∧w.frozen? ⟨b,v,none⟩=false:=by
 obtain ⟨f,hf⟩:=h
 exact ⟨f v,hf.cell (tab_get hv),hf.frozen v⟩
theorem AnyB.lt {w:World} {b N:Nat} (h:AnyB w b N):b<w.heap.size:=by
 obtain ⟨f,hf⟩:=h
 exact hf.lt
theorem AnyB.but {w w':World} {b g N:Nat} (h:AnyB w b N) (hb:But g w w') (hne:b≠g):AnyB w' b N:=by
 obtain ⟨f,hf⟩:=h
 exact ⟨f,hb.blk hf hne⟩
set_option maxRecDepth 100000 in
set_option maxHeartbeats 8000000 in
theorem price_any (C0:Nat) (w:World) (cb fb ub N F gb:Nat) (U:Nat→Nat) (SF:FnS) (Cs:List (List Ct)) (S:GrS) (G:GrD) (ni n:Nat) (da:Option Addr) (dc:Nat)
  (hbk:Blk w cb 89 #[.pointer (some ⟨fb,0,none⟩),.int .i64 (F:Nat),.slice none 0 0,.slice (some ⟨ub,0,none⟩) N N,.slice none 0 0,.slice none 0 0,.slice none 0 0,.slice none 0 0])
  (hun:Blk w ub 3 (tabL N fun v=>.int .i64 (U v:Nat)).toArray) (hcu:cb≠ub) (hC:C0≤cb∧C0≤ub) (hfb:SF.fb=fb) (hlow:FnLow C0 SF) (hfr:FinR w SF Cs) (hff:FinF Cs) (hN:N=Cs.length) (hdc:w.cell? ⟨fb,2,none⟩=some (.slice da N dc)) (hg:GIn C0 w gb S G) (hF:FineG G ni n) (hn:n=N) (hFF:F=firstN G) (h2:∀ v,F≤v→v<N→2≤(Cs.getD v []).length) :
  Calls Try.prog 40 #[.pointer (some ⟨cb,0,none⟩),.pointer (some ⟨gb,0,none⟩)] w fun e w'=>∃ pb:Nat,(∃ x,e = .returned x)∧w.heap.size≤pb∧Hid (ChAt w' ⟨cb,fb,pb,ub,N,F⟩ U (.slice none 0 0) (.slice none 0 0) (.slice none 0 0) (.slice none 0 0))∧Hid (Below C0 w w'):=by
 have hfC:fb<C0:=by rw [←hfb];exact hlow.f
 have hCw:C0≤w.heap.size:=hg.le
 have HFR:Hid (∀ u:World,Below C0 w u→FinR u SF Cs):=fun u hu=>hfr.low hlow hu
 have HGI:Hid (∀ u:World,Below C0 w u→GIn C0 u gb S G):=fun u hu=>hg.to hu
 have HDC:Hid (∀ u:World,Below C0 w u→u.cell? ⟨fb,2,none⟩=some (.slice da N dc)):=fun u hu=>(hu.cell (p:=⟨fb,2,none⟩) hfC).trans hdc
 have HBC:Hid (∀ u:World,Bl w u→Below C0 w u):=fun u hu=>hu.mono hCw
 have HBK:=hidden hbk
 have HUN:=hidden hun
 have HFI:=hidden hF
 have HFF:=hidden hff
 have HNN:=hidden hN
 have HNE2:=hidden h2
 have HFB:=hidden hfb
 have hN6:N≤60000:=by have:=hF.le;omega
 have hFN:F≤N:=by have:=hF.all;omega
 have HAN:Hid (∀ (k:Nat) (d:AndD),G.ands[k]?=some d→(0≤d.x∧d.x<2*(N:Int))∧(0≤d.y∧d.y<2*(N:Int))):=fun k d hd=>by
  have h1:=hF.ands k d hd
  have h3:=(List.getElem?_eq_some_iff.1 hd).1
  have h4:=hF.all
  omega
 obtain ⟨a2,Ea2⟩:=exh S.a2
 obtain ⟨na,Ena⟩:=exh G.ands.length
 obtain ⟨sb,Esb⟩:=exh w.heap.size
 have hna:na≤60000:=by have:=hF.all;have:=hF.le;have:=Ena.out;omega
 have HRW:Hid (∀ u:World,Bl w u→∀ (k:Nat) (d:AndD),G.ands[k]?=some d→∃ b o,a2=some ⟨b,o,none⟩∧u.cell? ⟨b,o+k*2,none⟩=some (.int .i64 d.x)∧u.cell? ⟨b,o+k*2+1,none⟩=some (.int .i64 d.y)):=fun u hu k d hd=>by
  obtain ⟨b,o,h1,_,h3⟩:=(HGI.out u (HBC.out u hu)).at_.a.el hd
  exact ⟨b,o,Ea2.out.trans h1,h3 0 _ rfl,h3 1 _ rfl⟩
 have z0:w.cell? ⟨cb,0,none⟩=some (.pointer (some ⟨fb,0,none⟩)):=hbk.cell (i:=0) rfl
 have hcw:=hbk.lt
 have huw:=hun.lt
 obtain ⟨w1,hr1,hk1,hb1⟩:=newL (w:=w) hN6
 have HB1:=hidden hb1
 have c2:=(HGI.out w1 (HBC.out w1 hb1)).bx.c2
 rw [←Ena.out,←Ea2.out] at c2
 rw [←Esb.out] at hr1 hk1 hcw huw
 have HS1:Hid (AnyB w1 sb N):=⟨fun _=>0,hk1⟩
 have z2:=hdc
 clear hbk hun hfb hlow hfr hff hN hdc hg hF hn hFF h2 hk1 hb1
 go_enter Try.func40,Try.ntmps40
 go_wp2_with fail
 clear z0 z2 c2 hr1
 go_loopw [6,25] (fun _ i' w'=>∃ k:Nat,k≤na∧i' = .int .i64 (k:Int)∧Hid (AnyB w' sb N)∧Hid (Bl w w')) (fun _ i' _=>na - (intOf i').toNat)
 case atStart=>exact ⟨0,Nat.zero_le _,rfl,HS1.out,HB1.out⟩
 case round =>
  clear HS1 HB1
  obtain ⟨k,hk,rfl,HS,HB⟩:=hrel
  by_cases hlk:k<na
  ·have hlkI:(k:Int)<(na:Int):=by omega
   obtain ⟨d,hd⟩:=getElem_lt (show k<G.ands.length by rw [←Ena.out];exact hlk)
   obtain ⟨b,o,ea,cx,cy⟩:=HRW.out wr HB.out k d hd
   obtain ⟨⟨hx0,hx1⟩,hy0,hy1⟩:=HAN.out k d hd
   have e2:IntKind.i64.wrap ((k:Int)+1)=(k:Int)+1:=wrapI _ (by omega) (by omega)
   obtain ⟨p,Ep⟩:=exh (d.x / 2).toNat
   obtain ⟨q,Eq⟩:=exh (d.y / 2).toNat
   have hxq:d.x.tdiv 2=(p:Int):=by rw [Int.tdiv_eq_ediv_of_nonneg hx0,Ep.out];omega
   have hyq:d.y.tdiv 2=(q:Int):=by rw [Int.tdiv_eq_ediv_of_nonneg hy0,Eq.out];omega
   have hpN:p<N:=by have:=Ep.out;omega
   have hqN:q<N:=by have:=Eq.out;omega
   have hpI:(p:Int)<(N:Int):=by omega
   have hqI:(q:Int)<(N:Int):=by omega
   obtain ⟨xb,Exb⟩:=exh wr.heap.size
   have hk1:=Blk.new wr 46 #[.int .i64 0,.int .i64 0]
   have HB1:Hid (Bl wr (wr.alloc (.cells #[.int .i64 0,.int .i64 0] 46))):=(Below.refl _ _).alloc (Nat.le_refl _) _
   rw [←Exb.out] at hk1
   obtain ⟨u1,Eu1⟩:=exh (wr.alloc (.cells #[.int .i64 0,.int .i64 0] 46))
   rw [←Eu1.out] at hk1 HB1
   have q0:u1.cell? ⟨xb,0,none⟩=some (.int .i64 0):=hk1.cell (i:=0) rfl
   have q1:u1.cell? ⟨xb,1,none⟩=some (.int .i64 0):=hk1.cell (i:=1) rfl
   have f0:=hk1.frozen 0
   have f1:=hk1.frozen 1
   obtain ⟨u2,Eu2⟩:=exh ((u1.setCell ⟨xb,0,none⟩ (.int .i64 d.x)).setCell ⟨xb,1,none⟩ (.int .i64 d.y))
   have hk2:Blk u2 xb 46 #[.int .i64 d.x,.int .i64 d.y]:=by
    rw [Eu2.out]
    have h1:Blk (u1.setCell ⟨xb,0,none⟩ (.int .i64 d.x)) xb 46 #[.int .i64 d.x,.int .i64 0]:=hk1.set 0 _
    exact h1.set 1 _
   have HB2:Hid (Bl wr u2):=by
    rw [Eu2.out]
    exact HB1.out.trans (((But.set xb 0 u1 _).trans (But.set xb 1 _ _)).below (by rw [Exb.out];exact Nat.le_refl _) HB1.out.size)
   have HS2:=hidden (HS.out.to HB2.out)
   have hsx:sb<xb:=by rw [Exb.out];exact HS.out.lt
   have r0:u2.cell? ⟨xb,0,none⟩=some (.int .i64 d.x):=hk2.cell (i:=0) rfl
   obtain ⟨z,zc,zf⟩:=HS2.out.cell hpN
   obtain ⟨z1,Ez1⟩:=exh (IntKind.i64.wrap (z+1))
   have ez1:=Ez1.out.symm
   obtain ⟨u3,Eu3⟩:=exh (u2.setCell ⟨sb,p,none⟩ (.int .i64 z1))
   have HS3:Hid (AnyB u3 sb N):=by rw [Eu3.out];exact HS2.out.set p z1
   have hbt:But sb u2 u3:=by rw [Eu3.out];exact But.set _ _ _ _
   have r1:u3.cell? ⟨xb,1,none⟩=some (.int .i64 d.y):=(hbt.blk hk2 (by omega)).cell (i:=1) rfl
   obtain ⟨y,yc,yf⟩:=HS3.out.cell hqN
   obtain ⟨y1,Ey1⟩:=exh (IntKind.i64.wrap (y+1))
   have ey1:=Ey1.out.symm
   have HSF:Hid (AnyB (u3.setCell ⟨sb,q,none⟩ (.int .i64 y1)) sb N):=HS3.out.set q y1
   have HBF:Hid (Bl w (u3.setCell ⟨sb,q,none⟩ (.int .i64 y1))):=by
    have b1:Bl w u2:=Bl.tr HB.out HB2.out
    exact b1.trans ((hbt.trans (But.set sb q u3 _)).below (by rw [Esb.out];exact Nat.le_refl _) b1.size)
   subst ea
   clear hd hx0 hx1 hy0 hy1 hk1 hk2 HB1 HB2 HS HB HS2 HS3 hbt
   go_upto_region 4 with (rw [←Eu1.out,←Exb.out])
   rw [←Eu2.out]
   clear q0 q1 f0 f1 cx cy
   go_upto_region 5 with fail
   rw [←Eu3.out]
   clear r0 zc zf
   go_wp2
   go_roundw
   case measure=>simp [intOf];omega
   case rel=>exact ⟨k+1,by omega,by simp,HSF.out,HBF.out⟩
  ·have hge:¬ (k:Int)<(na:Int):=by omega
   have z0:wr.cell? ⟨cb,0,none⟩=some (.pointer (some ⟨fb,0,none⟩)):=(HBK.out.below HB.out).cell (i:=0) rfl
   have zd:=HDC.out wr (HBC.out wr HB.out)
   obtain ⟨w2,hr2,hk2,hb2⟩:=newL (w:=wr) hN6
   obtain ⟨pb,Epb⟩:=exh wr.heap.size
   rw [←Epb.out] at hr2 hk2
   have HB2:Hid (Bl w w2):=Bl.tr HB.out hb2
   have hbk2:=HBK.out.below HB2.out
   have y2:w2.cell? ⟨cb,2,none⟩=some (.slice none 0 0):=hbk2.cell (i:=2) rfl
   have y2f:=hbk2.frozen 2
   obtain ⟨w3,Ew3⟩:=exh (w2.setCell ⟨cb,2,none⟩ (.slice (some ⟨pb,0,none⟩) N N))
   have hsp:sb<pb:=by rw [Epb.out];exact HS.out.lt
   have hbt:But cb w2 w3:=by rw [Ew3.out];exact But.set _ _ _ _
   have HCH:Hid (ChAt w3 ⟨cb,fb,pb,ub,N,F⟩ U (.slice none 0 0) (.slice none 0 0) (.slice none 0 0) (.slice none 0 0)):=⟨by rw [Ew3.out];exact hbk2.set 2 _,⟨fun _=>0,hbt.blk hk2 (show pb≠cb by omega)⟩,hbt.blk (HUN.out.below HB2.out) (Ne.symm hcu),⟨hcu,by show pb≠ub;omega,by show cb≠pb;omega⟩⟩
   have HS3:Hid (AnyB w3 sb N):=(HS.out.to hb2).but hbt (by omega)
   have HBF:Hid (Below C0 w w3):=(HBC.out w2 HB2.out).trans (hbt.below hC.1 (Nat.le_trans hCw HB2.out.size))
   have y1:w3.cell? ⟨cb,1,none⟩=some (.int .i64 (F:Nat)):=HCH.out.bk.cell (i:=1) rfl
   have hpw:w.heap.size≤pb:=by rw [Epb.out];exact HB.out.size
   clear hk2 hb2 hbk2 hbt HB HS HB2 HRW HAN
   go_upto_region 8 with fail
   rw [←Ew3.out]
   clear z0 zd hr2 y2 y2f
   go_wp2_with fail
   clear y1
   go_loopw [7,8,9,10] (fun v' _ _ _ w'=>∃ v:Nat,F≤v∧v≤N∧v' = .int .i64 (v:Int)∧Hid (ChAt w' ⟨cb,fb,pb,ub,N,F⟩ U (.slice none 0 0) (.slice none 0 0) (.slice none 0 0) (.slice none 0 0))∧Hid (AnyB w' sb N)∧Hid (Below C0 w w')) (fun v' _ _ _ _=>N - (intOf v').toNat)
   case atStart=>exact ⟨F,Nat.le_refl _,hFN,rfl,HCH.out,HS3.out,HBF.out⟩
   case round =>
    clear HCH HS3 HBF
    obtain ⟨v,hFv,hvN,rfl,HCH,HS,HB⟩:=hrel
    have k2:wr.cell? ⟨cb,2,none⟩=some (.slice (some ⟨pb,0,none⟩) N N):=HCH.out.bk.cell (i:=2) rfl
    have k0:wr.cell? ⟨cb,0,none⟩=some (.pointer (some ⟨fb,0,none⟩)):=HCH.out.bk.cell (i:=0) rfl
    by_cases hlv:v<N
    ·have hlvI:(v:Int)<(N:Int):=by omega
     have hvl:v<Cs.length:=by rw [←HNN.out];exact hlv
     have h2l:=HNE2.out v hFv hlv
     have hfw:=HFF.out.few v hvl
     have AT:=hidden (finAt_any wr SF Cs (HFR.out wr HB.out) v hvl (HFF.out.has v hvl))
     rw [HFB.out] at AT
     obtain ⟨n0,En0⟩:=exh (Cs.getD v []).length
     rw [←En0.out] at AT h2l hfw
     obtain ⟨n1,En1⟩:=exh (n0 - 1)
     have hn1:n1≤257:=by have:=En1.out;omega
     obtain ⟨so0,Eso0⟩:=exh (stO Cs v*8)
     obtain ⟨so,Eso⟩:=exh (so0+8)
     obtain ⟨ab,Eab⟩:=exh SF.ab
     rw [←Eso0.out,←Eab.out] at AT
     have RS:∀ wx:World,(Instr.sliceAt 83 (.slice (some ⟨ab,so0,none⟩) n0 n0) (some (.int .i64 1)) none none).run Try.prog wx = .ok (.slice (some ⟨ab,so,none⟩) n1 n1) wx:=fun wx=>by
      have:=cut_tl wx ab so0 n0 h2l
      rw [←En1.out,←Eso.out] at this
      exact this
     have HCO:Hid (∀ (u:World) (i:Nat),Bl wr u→i<n1→Calls Try.prog 59 #[.pointer (some ⟨cb,0,none⟩),.pointer (some ⟨ab,so+i*8,none⟩)] u fun e w'=>(∃ z:Int,e = .returned (.int .i64 z))∧Bl u w'):=fun u i hu hi=>by
      obtain ⟨c,hc⟩:=getElem_lt (show i+1<(Cs.getD v []).length by have:=En1.out;have:=En0.out;omega)
      have hub:Below C0 w u:=HB.out.trans (hu.mono (Nat.le_trans hCw HB.out.size))
      obtain ⟨h1,h3⟩:=(HFR.out u hub).at hvl hc
      rw [show stO Cs v*8+(i+1)*8=so+i*8 by rw [Eso.out,Eso0.out];omega,←Eab.out] at h1
      obtain ⟨_,h4,h5⟩:=HFF.out.each v hvl c (List.mem_of_getElem? hc)
      exact costs_any u ⟨cb,fb,pb,ub,N,F⟩ U _ _ _ _ (HCH.out.to hu) _ _ c h1 h3 h5 (fun x hx=>by show x<N;rw [HNN.out];exact h4.2 x hx)
     have e5:IntKind.i64.wrap ((v:Int)+1)=(v:Int)+1:=wrapI _ (by omega) (by omega)
     clear hfw
     go_wp2_with fail
     go_at_call 58
     refine AT.out.mono ?_
     rintro e v1 ⟨rfl,hv1⟩
     have HV1:=hidden hv1
     clear hv1 AT k0 k2
     go_wp2_with fail
     clear RS
     go_loopw [8,10,82] (fun l' _ i' w'=>∃ (k:Nat) (z:Int),k≤n1∧i' = .int .i64 (k:Int)∧l' = .int .i64 z∧Hid (Bl wr w')) (fun _ _ i' _=>n1 - (intOf i').toNat)
     case atStart=>exact ⟨0,1099511627776,Nat.zero_le _,rfl,rfl,HV1.out⟩
     case round =>
      clear HV1
      obtain ⟨k,z,hk,rfl,rfl,HI⟩:=hrel
      by_cases hlk:k<n1
      ·have hlkI:(k:Int)<(n1:Int):=by omega
       have e2:IntKind.i64.wrap ((k:Int)+1)=(k:Int)+1:=wrapI _ (by omega) (by omega)
       have CO:=hidden (HCO.out wr k HI.out hlk)
       go_wp2_with fail
       go_at_call 59
       refine CO.out.mono ?_
       rintro e v2 ⟨⟨z2,rfl⟩,hv2⟩
       have HI2:=hidden (Bl.tr HI.out hv2)
       clear hv2 CO HI
       go_wp2
       go_roundw
       case measure=>simp [intOf];omega
       case rel=>exact ⟨k+1,_,by omega,by simp,rfl,HI2.out⟩
      ·have hge2:¬ (k:Int)<(n1:Int):=by omega
       have HCH2:=hidden (HCH.out.to HI.out)
       have HS2:=hidden (HS.out.to HI.out)
       have HBI:Hid (Below C0 w wr):=HB.out.trans (HI.out.mono (Nat.le_trans hCw HB.out.size))
       have k2:wr.cell? ⟨cb,2,none⟩=some (.slice (some ⟨pb,0,none⟩) N N):=HCH2.out.bk.cell (i:=2) rfl
       obtain ⟨y,yc,-⟩:=HS2.out.cell hlv
       obtain ⟨g,hpc,hpf⟩:∃ g:Int,wr.drew.cell? ⟨pb,v,none⟩=some (.int .i64 g)∧wr.drew.frozen? ⟨pb,v,none⟩=false:=AnyB.cell (w:=wr) (b:=pb) HCH2.out.pr hlv
       obtain ⟨m,Em⟩:=exh (max 1 y)
       have em:=Em.out.symm
       have hm:¬ m=0:=by have:=Em.out;omega
       have HNX:Hid (∀ x:Int,ChAt (wr.setCell ⟨pb,v,none⟩ (.int .i64 x)).drew ⟨cb,fb,pb,ub,N,F⟩ U (.slice none 0 0) (.slice none 0 0) (.slice none 0 0) (.slice none 0 0)∧AnyB (wr.setCell ⟨pb,v,none⟩ (.int .i64 x)).drew sb N∧Below C0 w (wr.setCell ⟨pb,v,none⟩ (.int .i64 x)).drew):=fun x=>by
        have hb:=But.set pb v wr (.int .i64 x)
        have ne:=HCH2.out.ne
        refine ⟨⟨hb.blk HCH2.out.bk ne.2.2,?_,hb.blk HCH2.out.un (Ne.symm ne.2.1),ne⟩,AnyB.but (w':=(wr.setCell ⟨pb,v,none⟩ (.int .i64 x)).drew) HS2.out hb.drew (show sb≠pb by omega),Below.drew (HBI.out.trans (hb.below (show C0≤pb by omega) (Nat.le_trans hCw HBI.out.size)))⟩
        exact AnyB.set (w:=wr) (b:=pb) HCH2.out.pr v x
       have hcp:cb≠pb:=by omega
       have hsp2:sb≠pb:=by omega
       clear HI HCO
       go_wp2_with fail
       refine wp_region_noPanic ?_
       refine wp_region_held_drew (S:=fun wz=>wz.cell? ⟨cb,2,none⟩=some (.slice (some ⟨pb,0,none⟩) N N)∧wz.cell? ⟨sb,v,none⟩=some (.int .i64 y)) (by kernel_rfl) (by exact ⟨k2,yc⟩) (fun hHeld=>?_)
       refine tk 0 ?_
       refine tk 1 ?_
       refine tk 2 ?_
       refine tk 3 ?_
       refine tk 4 ?_
       refine tk 5 ?_
       refine tk 6 ?_
       refine tk 7 ?_
       refine tk 8 ?_
       refine tk 9 ?_
       refine tk 10 ?_
       refine tk 11 ?_
       refine tk 12 ?_
       refine rd 13 fun K hK=>?_
       (try simp only [gA,gB,gC]);go_simp
       refine wo hK ⟨(But.set pb v wr.drew _).cell hHeld.1 hcp,(But.set pb v wr.drew _).cell hHeld.2 hsp2⟩ fun hHeld3=>?_
       clear hK K
       refine wpAnyH_done (by kernel_rfl) ?_ _
       refine NoPanic.normal ?_
       clear hHeld3 hHeld hpc hpf k2 yc
       go_wp2
       go_roundw
       case measure=>simp [intOf];omega
       case rel=>exact ⟨v+1,by omega,by omega,by simp,(HNX.out _).1,(HNX.out _).2.1,(HNX.out _).2.2⟩
    ·have hge2:¬ (v:Int)<(N:Int):=by omega
     clear k0
     go_wp2
     go_end0
     first | exact ⟨pb,⟨_,rfl⟩,hpw,HCH.out,HB.out⟩ | (refine ⟨⟨_,rfl⟩,pb,hpw,HCH.out,HB.out⟩)
end Go.Proofs.Ytlaljeobdddegaa

namespace Go.Proofs.Ytlaljeobdddegaa
open Go.RowKit Mp
structure CutE (P:(Nat→Bool)→Prop) (F N:Nat) (Cs:List (List Ct)) (dp:Nat→Nat):Prop where
 src:∀ v,v<F→dp v=0
 gate:∀ v,F≤v→v<N→∃ c0 ct,Cs.getD v []=c0 :: ct∧(∀ c,c ∈ ct→TOk P v c∧c.lv.length≤4∧∀ u,u ∈ c.lv→u<v∧dp u≤c.dep)∧∃ c,c ∈ ct∧c.dep+1=dp v
theorem Mp.FOk.cutE {G:Gr} {ia ib:Nat→Bool} {N n:Nat} {s:List (List Ct) × List Nat} (h:FOk G ia ib N n s):CutE (ValG G ia ib N) G.first (G.first+n) s.1 (dOf s.2):=by
 refine ⟨h.cp.d0,fun v hF hv=>?_⟩
 have hg:=h.cp.gate v hv hF
 have hok:=h.ok v hv
 have hs:=h.cp.sound v hv
 have hex:=h.cp.dex v hv hF
 unfold KOf at hg
 cases e:s.1.getD v [] with
 | nil=>rw [e] at hg;simp at hg
 | cons c0 ct =>
  rw [e] at hg hok
  rw [List.map_cons] at hg
  injection hg with h1 h2
  refine ⟨c0,ct,rfl,fun c hc=>?_,?_⟩
  ·have hm:c.lv ∈ keepA (KOf s.1) (cands (KOf s.1 (G.a v)) (KOf s.1 (G.b v))):=by
    have:c.lv ∈ ct.map Ct.lv:=List.mem_map_of_mem hc
    rw [h2] at this;exact this
   obtain ⟨k1,k2⟩:=hok c (List.mem_cons_of_mem _ hc)
   have h4:c.lv ∈ KOf s.1 v:=by
    unfold KOf;rw [e];exact List.mem_map_of_mem (List.mem_cons_of_mem _ hc)
   refine ⟨k1,(hs.1 c.lv h4).2.1,fun u hu=>⟨(hs.2.2 c.lv hF hm).2.2 u hu,?_⟩⟩
   rw [k2];exact mxC_le _ _ u hu
  ·obtain ⟨k,hk,hd⟩:=hex
   have hk':k ∈ ct.map Ct.lv:=by rw [h2];exact hk
   obtain ⟨c,hc,rfl⟩:=List.mem_map.1 hk'
   refine ⟨c,hc,?_⟩
   rw [(hok c (List.mem_cons_of_mem _ hc)).2,hd];omega
def mU (t x:Nat):Nat:=if x=0∨t<x then t else x
theorem mU_mU (t x:Nat):mU t (mU t x)=mU t x:=by
 unfold mU
 by_cases h:x=0∨t<x
 ·rw [if_pos h];split <;> rfl
 ·rw [if_neg h,if_neg h]
theorem needU_same (U:Nat→Nat) (v t:Nat):needU U v t v=mU t (U v):=by
 unfold needU mU
 split
 ·rw [upd_same]
 ·rfl
theorem needs_in {t u:Nat}:∀ {l:List Nat} {U:Nat→Nat},u ∈ l→needs U l t u=mU t (U u)
 | a :: r,U,h=>by
  show needs (needU U a t) r t u=_
  by_cases e:u=a
  ·subst e
   by_cases hr:u ∈ r
   ·rw [needs_in hr,needU_same,mU_mU]
   ·rw [needs_ne hr,needU_same]
  ·have hr:u ∈ r:=by rcases List.mem_cons.1 h with h | h;exact absurd h e;exact h
   rw [needs_in hr,needU_ne e]
theorem lvW_mem {c:Ct} {u:Nat} (h:u ∈ lvW c):u ∈ c.lv:=by
 obtain ⟨p,hp,rfl⟩:=List.mem_map.1 h
 have:=wtyL_lt p hp
 rw [List.getD_eq_getElem?_getD,List.getElem?_eq_getElem this]
 exact List.getElem_mem _
structure CovI (P:(Nat→Bool)→Prop) (F N:Nat) (dp:Nat→Nat) (dl:Nat) (E:Nat→Prop) (v:Nat) (U:Nat→Nat) (gs:List Nat) (Ls:List (List Nat)) (bs:List Nat):Prop where
 l1:Ls.length=gs.length
 l2:bs.length=gs.length
 dec:gs.Pairwise (· > ·)
 gin:∀ g,g ∈ gs→v≤g∧F≤g∧g<N∧0<U g
 all:∀ u,F≤u→v≤u→u<N→0<U u→u ∈ gs
 ends:∀ u,E u→F≤u→u<N→0<U u
 ok:∀ u,F≤u→u<N→0<U u→dp u≤U u∧U u≤dl
 tab:∀ (i g:Nat) (ls:List Nat) (b:Nat),gs[i]?=some g→Ls[i]?=some ls→bs[i]?=some b→ls.length≤4∧(∀ u,u ∈ ls→u<g∧(F≤u→0<U u∧U u<U g))∧(∀ val,P val→b.testBit (spl (ls.map val))=val g)∧b<2 ^ 2 ^ ls.length
theorem CovI.skip {P:(Nat→Bool)→Prop} {F N:Nat} {dp:Nat→Nat} {dl:Nat} {E:Nat→Prop} {v:Nat} {U:Nat→Nat} {gs:List Nat} {Ls:List (List Nat)} {bs:List Nat} (h:CovI P F N dp dl E (v+1) U gs Ls bs) (h0:U v=0):CovI P F N dp dl E v U gs Ls bs :=
 ⟨h.l1,h.l2,h.dec,fun g hg=>by have:=h.gin g hg;exact ⟨by omega,this.2⟩,fun u hF hv hN hU=>h.all u hF (by by_cases e:u=v;subst e;omega;omega) hN hU,h.ends,h.ok,h.tab⟩
theorem CovI.take {P:(Nat→Bool)→Prop} {F N:Nat} {Cs:List (List Ct)} {dp:Nat→Nat} {dl:Nat} {E:Nat→Prop} {v:Nat} {U:Nat→Nat} {gs:List Nat} {Ls:List (List Nat)} {bs:List Nat} (h:CovI P F N dp dl E (v+1) U gs Ls bs) (hC:CutE P F N Cs dp) (hF:F≤v) (hN:v<N) {c0 c:Ct} {ct:List Ct} (he:Cs.getD v []=c0 :: ct) (hc:c ∈ ct) (hd:c.dep<U v):CovI P F N dp dl E v (needs U (lvW c) (U v - 1)) (gs++[v]) (Ls++[lvW c]) (bs++[bitT (wtyL c) c.tb]):=by
 have gate1:∀ u,F≤u→u<N→1≤dp u:=fun u h1 h2=>by
  obtain ⟨_,_,_,_,c',_,e⟩:=hC.gate u h1 h2
  omega
 obtain ⟨c0',ct',e',hcs,_⟩:=hC.gate v hF hN
 rw [he] at e'
 injection e' with _ e2
 subst e2
 obtain ⟨tok,hl4,hlv⟩:=hcs c hc
 have hlow:∀ u,u ∈ lvW c→u<v:=fun u hu=>(hlv u (lvW_mem hu)).1
 have stay:∀ u,v≤u→needs U (lvW c) (U v - 1) u=U u:=fun u hu=>needs_ne (fun hm=>by have:=hlow u hm;omega)
 have new:∀ u,F≤u→u ∈ lvW c→0<needs U (lvW c) (U v - 1) u∧needs U (lvW c) (U v - 1) u<U v∧dp u≤needs U (lvW c) (U v - 1) u∧(0<U u→needs U (lvW c) (U v - 1) u≤U u):=fun u h1 hu=>by
  obtain ⟨k1,k2⟩:=hlv u (lvW_mem hu)
  have k3:=gate1 u h1 (by omega)
  have k4:=h.ok u h1 (by omega)
  rw [needs_in hu]
  unfold mU
  split
  ·exact ⟨by omega,by omega,by omega,fun hp=>by omega⟩
  ·exact ⟨by omega,by omega,by have:=k4 (by omega);omega,fun _=>Nat.le_refl _⟩
 have low:∀ u,F≤u→u<N→0<U u→0<needs U (lvW c) (U v - 1) u∧needs U (lvW c) (U v - 1) u≤U u:=fun u h1 h2 h3=>by
  by_cases hu:u ∈ lvW c
  ·exact ⟨(new u h1 hu).1,(new u h1 hu).2.2.2 h3⟩
  ·rw [needs_ne hu];exact ⟨h3,Nat.le_refl _⟩
 have hUv:=h.ok v hF hN (by omega)
 refine ⟨by simp [h.l1],by simp [h.l2],?_,fun g hg=>?_,fun u h1 h2 h3 h4=>?_,fun u h1 h2 h3=>(low u h2 h3 (h.ends u h1 h2 h3)).1,fun u h1 h2 h3=>?_,fun i g ls b e1 e2 e3=>?_⟩
 ·rw [List.pairwise_append]
  refine ⟨h.dec,List.pairwise_singleton _ _,fun a ha b hb=>?_⟩
  obtain rfl:=List.mem_singleton.1 hb
  have:=(h.gin a ha).1
  show b<a
  omega
 ·rcases List.mem_append.1 hg with hg | hg
  ·have:=h.gin g hg
   exact ⟨by omega,this.2.1,this.2.2.1,by rw [stay g (by omega)];exact this.2.2.2⟩
  ·obtain rfl:=List.mem_singleton.1 hg
   exact ⟨Nat.le_refl _,hF,hN,by rw [stay g (Nat.le_refl _)];omega⟩
 ·rw [stay u h2] at h4
  by_cases e:u=v
  ·rw [e];simp
  ·exact List.mem_append.2 (Or.inl (h.all u h1 (by omega) h3 h4))
 ·by_cases hu:u ∈ lvW c
  ·obtain ⟨_,k2,k3,_⟩:=new u h1 hu
   exact ⟨k3,by omega⟩
  ·rw [needs_ne hu] at h3 ⊢
   exact h.ok u h1 h2 h3
 ·by_cases hi:i<gs.length
  ·rw [List.getElem?_append_left hi] at e1
   rw [List.getElem?_append_left (by rw [h.l1];exact hi)] at e2
   rw [List.getElem?_append_left (by rw [h.l2];exact hi)] at e3
   obtain ⟨t1,t2,t3,t4⟩:=h.tab i g ls b e1 e2 e3
   have hg:=h.gin g (List.mem_of_getElem? e1)
   refine ⟨t1,fun u hu=>⟨(t2 u hu).1,fun hFu=>?_⟩,t3,t4⟩
   obtain ⟨k1,k2⟩:=(t2 u hu).2 hFu
   have k3:=(t2 u hu).1
   have k4:=low u hFu (by omega) k1
   rw [stay g (by omega)]
   exact ⟨k4.1,by omega⟩
  ·have hi2:i=gs.length:=by
    have:=(List.getElem?_eq_some_iff.1 e1).1
    rw [List.length_append,List.length_singleton] at this
    omega
   subst hi2
   rw [List.getElem?_concat_length] at e1
   rw [←h.l1,List.getElem?_concat_length] at e2
   rw [←h.l2,List.getElem?_concat_length] at e3
   obtain rfl:=Option.some.inj e1
   obtain rfl:=Option.some.inj e2
   obtain rfl:=Option.some.inj e3
   have hlen:(lvW c).length=(wtyL c).length:=List.length_map _
   refine ⟨by rw [hlen];exact Nat.le_trans (wtyL_len c) hl4,fun u hu=>⟨hlow u hu,fun hFu=>?_⟩,fun val hval=>?_,?_⟩
   ·rw [stay v (Nat.le_refl _)]
    exact ⟨(new u hFu hu).1,(new u hFu hu).2.1⟩
   ·have h1:=bitT_val (l:=c.lv) (ps:=wtyL c) (val:=val) (tb:=c.tb) hl4 wtyL_lt (wtyL_nd c) (wtyL_idle tok)
    rw [tok.val val hval] at h1
    rw [←h1]
    unfold lvW
    rw [List.map_map];rfl
   ·rw [hlen];exact mkB_lt _ _
theorem CovI.start {P:(Nat→Bool)→Prop} {F N:Nat} {dp:Nat→Nat} {dl:Nat} {E:Nat→Prop} {U:Nat→Nat} (h1:∀ u,E u→F≤u→u<N→U u=dl) (h2:∀ u,U u=0∨U u=dl) (h3:∀ u,F≤u→u<N→0<U u→dp u≤dl) (h4:∀ u,E u→F≤u→u<N→0<dl):CovI P F N dp dl E N U [] [] [] :=
 by
  refine ⟨rfl,rfl,List.Pairwise.nil,fun g hg=>absurd hg (by simp),fun u _ hv hN _=>by omega,fun u hE hF hN=>by rw [h1 u hE hF hN];exact h4 u hE hF hN,fun u hF hN hU=>?_,fun i g ls b e=>by simp at e⟩
  have:=h3 u hF hN hU
  rcases h2 u with e | e
  ·omega
  ·rw [e];exact ⟨this,Nat.le_refl _⟩
end Go.Proofs.Ytlaljeobdddegaa

namespace Go.Proofs.Ytlaljeobdddegaa
open Go.RowKit Mp
theorem GIn.mono {B C:Nat} {w:World} {gb:Nat} {S:GrS} {G:GrD} (h:GIn B w gb S G) (hB:B≤C) (hC:C≤w.heap.size):GIn C w gb S G:=⟨h.bx,h.at_.mono hB,Nat.lt_of_lt_of_le h.lt hB,hC⟩
theorem own_ints {w:World} {C:Nat} {v:Value} {n:Nat} {l:List Int} (h:w.ownsRow C 3 1 v n (l.map zV)):∃ a c,v = .slice a n c∧n=l.length∧∀ k y,l[k]?=some y→∃ b o,a=some ⟨b,o,none⟩∧w.cell? ⟨b,o+k,none⟩=some (.int .i64 y):=by
 have hl:n=l.length:=by have:=h.1;simp at this;omega
 rcases h.2 with ⟨rfl,h0⟩ | ⟨g,cap,cur,rfl,_,hg,_,_,h3,h4⟩
 ·subst h0
  exact ⟨none,0,rfl,hl,fun k y hy=>by rw [List.eq_nil_of_length_eq_zero hl.symm] at hy;simp at hy⟩
 ·refine ⟨some ⟨g,0,none⟩,cap,rfl,hl,fun k y hy=>⟨g,0,rfl,?_⟩⟩
  have hk:=(List.getElem?_eq_some_iff.1 hy).1
  have h5:(l.map zV)[k]?=some (zV y):=by rw [List.getElem?_map,hy];rfl
  rw [←h4,List.getElem?_take_of_lt (by omega),Array.getElem?_toList] at h5
  rw [Nat.zero_add]
  simp [World.cell?,hg,h5,zV]
theorem cell_lt {w:World} {b i:Nat} {v:Value} (h:w.cell? ⟨b,i,none⟩=some v):b<w.heap.size:=by
 by_cases hb:b<w.heap.size
 ·exact hb
 ·simp [World.cell?,Array.getElem?_eq_none (Nat.le_of_not_lt hb)] at h
theorem fd_env {w:World} {G:GrD} {ni n fb:Nat} (hF:FineG G ni n) (h:FnB w fb (Fd hF G.ands.length).1 (Fd hF G.ands.length).2):∃ (SF:FnS) (db cd:Nat),SF.fb=fb∧FinR w SF (Fd hF G.ands.length).1∧FnLow w.heap.size SF∧w.cell? ⟨fb,2,none⟩=some (.slice (some ⟨db,0,none⟩) n cd)∧db<w.heap.size∧∀ v,v<n→w.cell? ⟨db,v,none⟩=some (.int .i64 (dOf (Fd hF G.ands.length).2 v:Nat)):=by
 obtain ⟨l1,l2⟩:=fd_len hF (Nat.le_refl _)
 obtain ⟨ff,_,_⟩:=fd_fin hF (Nat.le_refl _)
 have hall:=hF.all
 have hf1:1≤firstN G:=by unfold firstN;omega
 have hne:(Fd hF G.ands.length).1≠[]:=fun e=>by rw [e] at l1;simp at l1;omega
 have hne2:(Fd hF G.ands.length).1.flatten≠[]:=fun e=>by
  have h1:=flat_at (Cs:=(Fd hF G.ands.length).1) (v:=0) (i:=0) (c:=((Fd hF G.ands.length).1.getD 0 []).head (ff.has 0 (by rw [l1];omega))) (by rw [l1];omega) (by rw [List.head_eq_getElem,List.getElem?_eq_getElem])
  rw [e] at h1;simp at h1
 have lv4:∀ cs,cs ∈ (Fd hF G.ands.length).1→∀ c,c ∈ cs→c.lv.length≤4:=fun cs hcs c hc=>by
  obtain ⟨v,hv⟩:=List.getElem?_of_mem hcs
  have hvl:=(List.getElem?_eq_some_iff.1 hv).1
  have e:(Fd hF G.ands.length).1.getD v []=cs:=by rw [List.getD_eq_getElem?_getD,hv];rfl
  exact (ff.each v hvl c (by rw [e];exact hc)).2.1.1
 obtain ⟨SF,hfin⟩:=h.fin hne hne2 lv4
 rcases hfin with ⟨h1,h2,h3,db,cd,h4,_,h5⟩ | h0
 ·have hd:∀ v,v<n→w.cell? ⟨db,v,none⟩=some (.int .i64 (dOf (Fd hF G.ands.length).2 v:Nat)):=fun v hv=>by
   refine h5 v _ ?_
   obtain ⟨d,hd⟩:=getElem_lt (show v<(Fd hF G.ands.length).2.length by rw [l2];omega)
   unfold dOf
   rw [List.getD_eq_getElem?_getD,hd];rfl
  rw [l2,hall] at h4
  exact ⟨SF,db,cd,h1,h2,h3,h4,cell_lt (hd 0 (by omega)),hd⟩
 ·rw [h0] at l2;simp at l2;omega
theorem dec_len:∀ {l:List Nat} {M:Nat},l.Pairwise (· > ·)→(∀ g,g ∈ l→g<M)→l.length≤M
 | [],_,_,_=>Nat.zero_le _
 | a :: r,M,h,hm=>by
  have h1:=List.pairwise_cons.1 h
  have h2:=dec_len h1.2 (fun g hg=>h1.1 g hg)
  have h3:=hm a List.mem_cons_self
  rw [List.length_cons];omega
theorem CovI.len {P:(Nat→Bool)→Prop} {F N:Nat} {dp:Nat→Nat} {dl:Nat} {E:Nat→Prop} {v:Nat} {U:Nat→Nat} {gs:List Nat} {Ls:List (List Nat)} {bs:List Nat} (h:CovI P F N dp dl E v U gs Ls bs):gs.length≤N∧Ls.length≤N∧bs.length≤N∧Ls.flatten.length≤4*N:=by
 have h1:=dec_len h.dec (fun g hg=>(h.gin g hg).2.2.1)
 refine ⟨h1,by rw [h.l1];exact h1,by rw [h.l2];exact h1,?_⟩
 have h2:=flat_few 4 Ls (fun i hi=>by
  obtain ⟨g,hg⟩:=getElem_lt (show i<gs.length by rw [←h.l1];exact hi)
  obtain ⟨ls,hls⟩:=getElem_lt hi
  obtain ⟨b,hb⟩:=getElem_lt (show i<bs.length by rw [h.l2,←h.l1];exact hi)
  rw [List.getD_eq_getElem?_getD,hls]
  exact (h.tab i g ls b hg hls hb).1)
 rw [h.l1] at h2
 omega
def mxE (dp:Nat→Nat) (l:List Int):Nat:=l.foldl (fun d x=>max d (dp (x / 2).toNat)) 0
def untE (dl:Nat) (l:List Int):Nat→Nat:=l.foldl (fun U x=>upd U (x / 2).toNat dl) fun _=>0
theorem mxE_next {dp:Nat→Nat} {l:List Int} {k:Nat} {x:Int} (h:l[k]?=some x):mxE dp (l.take (k+1))=max (mxE dp (l.take k)) (dp (x / 2).toNat):=by
 unfold mxE;rw [take_next _ _ _ h,List.foldl_append];rfl
theorem untE_next {dl:Nat} {l:List Int} {k:Nat} {x:Int} (h:l[k]?=some x):untE dl (l.take (k+1))=upd (untE dl (l.take k)) (x / 2).toNat dl:=by
 unfold untE;rw [take_next _ _ _ h,List.foldl_append];rfl
theorem mxE_ge' (dp:Nat→Nat):∀ (l:List Int) (d:Nat),d≤l.foldl (fun d x=>max d (dp (x / 2).toNat)) d∧∀ x,x ∈ l→dp (x / 2).toNat≤l.foldl (fun d x=>max d (dp (x / 2).toNat)) d
 | [],d=>⟨Nat.le_refl _,fun x hx=>absurd hx (by simp)⟩
 | a :: r,d=>by
  have ih:=mxE_ge' dp r (max d (dp (a / 2).toNat))
  rw [List.foldl_cons]
  refine ⟨by omega,fun x hx=>?_⟩
  rcases List.mem_cons.1 hx with rfl | hx
  ·omega
  ·exact ih.2 x hx
theorem mxE_ge {dp:Nat→Nat} {l:List Int} {x:Int} (h:x ∈ l):dp (x / 2).toNat≤mxE dp l:=(mxE_ge' dp l 0).2 x h
theorem mxE_le {dp:Nat→Nat} {M:Nat}:∀ (l:List Int),(∀ x,x ∈ l→dp (x / 2).toNat≤M)→∀ d,d≤M→l.foldl (fun d x=>max d (dp (x / 2).toNat)) d≤M
 | [],_,d,hd=>hd
 | a :: r,h,d,hd=>by
  rw [List.foldl_cons]
  exact mxE_le r (fun x hx=>h x (List.mem_cons_of_mem _ hx)) _ (by have:=h a List.mem_cons_self;omega)
theorem untE_or (dl:Nat):∀ (l:List Int) (V:Nat→Nat) (u:Nat),(l.foldl (fun U x=>upd U (x / 2).toNat dl) V u=V u∧∀ x,x ∈ l→(x / 2).toNat≠u)∨(l.foldl (fun U x=>upd U (x / 2).toNat dl) V u=dl∧∃ x,x ∈ l∧(x / 2).toNat=u)
 | [],V,u=>Or.inl ⟨rfl,fun x hx=>absurd hx (by simp)⟩
 | a :: r,V,u=>by
  rw [List.foldl_cons]
  rcases untE_or dl r (upd V (a / 2).toNat dl) u with ⟨h1,h2⟩ | ⟨h1,x,hx,hu⟩
  ·by_cases e:u=(a / 2).toNat
   ·refine Or.inr ⟨?_,a,List.mem_cons_self,e.symm⟩
    rw [h1,e,upd_same]
   ·refine Or.inl ⟨?_,fun x hx=>?_⟩
    ·rw [h1,upd_ne e]
    ·rcases List.mem_cons.1 hx with rfl | hx
     ·exact fun h=>e h.symm
     ·exact h2 x hx
  ·exact Or.inr ⟨h1,x,List.mem_cons_of_mem _ hx,hu⟩
theorem cov_start {P:(Nat→Bool)→Prop} {F N:Nat} {Cs:List (List Ct)} {dp:Nat→Nat} (hC:CutE P F N Cs dp) (l:List Int):CovI P F N dp (mxE dp l) (fun u=>∃ x,x ∈ l∧(x / 2).toNat=u) N (untE (mxE dp l) l) [] [] []:=by
 refine CovI.start (fun u hE hF hN=>?_) (fun u=>?_) (fun u hF hN hU=>?_) (fun u hE hF hN=>?_)
 ·obtain ⟨x,hx,hu⟩:=hE
  rcases untE_or (mxE dp l) l (fun _=>0) u with ⟨_,h2⟩ | ⟨h1,_⟩
  ·exact absurd hu (h2 x hx)
  ·exact h1
 ·rcases untE_or (mxE dp l) l (fun _=>0) u with ⟨h1,_⟩ | ⟨h1,_⟩
  ·exact Or.inl h1
  ·exact Or.inr h1
 ·rcases untE_or (mxE dp l) l (fun _=>0) u with ⟨h1,_⟩ | ⟨_,x,hx,rfl⟩
  ·unfold untE at hU;rw [h1] at hU;omega
  ·exact mxE_ge hx
 ·obtain ⟨x,hx,rfl⟩:=hE
  obtain ⟨_,_,_,_,c,_,e⟩:=hC.gate _ hF hN
  have:=mxE_ge (dp:=dp) hx
  omega
theorem ChAt.until {w:World} {D:ChS} {U:Nat→Nat} {gv lv ev bv:Value} (h:ChAt w D U gv lv ev bv) (v t:Nat):ChAt (w.setCell ⟨D.ub,v,none⟩ (.int .i64 (t:Nat))) D (upd U v t) gv lv ev bv:=by
 have hb:=But.set D.ub v w (.int .i64 (t:Nat))
 obtain ⟨f,hf⟩:=h.pr
 refine ⟨hb.blk h.bk h.ne.1,⟨f,hb.blk hf h.ne.2.1⟩,?_,h.ne⟩
 have:=h.un.set v (.int .i64 (t:Nat))
 rw [tab_set,upd_nat] at this
 exact this
theorem CvAt.none {w:World} {D:ChS} {U:Nat→Nat} (h:ChAt w D U (.slice none 0 0) (.slice none 0 0) (.slice none 0 0) (.slice none 0 0)):CvAt w.heap.size w D U [] [] [] (.slice none 0 0) (.slice none 0 0) (.slice none 0 0) (.slice none 0 0):=by
 obtain ⟨f,hf⟩:=h.pr
 exact ⟨h,own_nil _ _ _ _,own_nil _ _ _ _,own_nil _ _ _ _,own_nil _ _ _ _,FaV.nil _,FaV.nil _,FaV.nil _,FaV.nil _,FaV.nil _,FaV.nil _,⟨h.bk.lt,hf.lt,h.un.lt⟩,Nat.le_refl _⟩
end Go.Proofs.Ytlaljeobdddegaa
