import Derived.Test.YtlaljeobdddegaaJ25
namespace Go.Proofs.Ytlaljeobdddegaa.L
open Go.RowKit
set_option maxRecDepth 100000 in
set_option maxHeartbeats 16000000 in
theorem tablesRun_doc (B:Nat) (w:World) (S:NtS) (N:NtD) (h:NtAt B w S N) (hB:B≤w.heap.size) (hin:NtIn N) (hnil:S.a1=none→S.c1=0∧N.init=[]) (ta:Option Addr) (tc:Nat) (trs:List TR) (ht:TrAt B w ta trs) :
  Calls Try.prog 12 #[.agg (S.cells N),.slice ta trs.length tc] w fun e w'=>∃ v,∃ rows:List RD,e = .returned v∧w'.ownsRow w.heap.size 30 1 v trs.length (rows.map RD.v)∧rows.map RD.l=runT N (trs.map TR.l) N.init∧(∀ r,r ∈ rows→BS w' r.v r.l)∧Below w.heap.size w w':=by
 have HIN:=hidden hin
 have i0:=hin.i0
 have i1:=hin.i1
 have il:=hin.il
 have tl:=hin.tl
 have ol:=hin.ol
 have HNIL:=hidden hnil
 have hlen:=ht.len
 obtain ⟨ni,hni,hnl⟩:∃ n:Nat,N.ins=(n:Int)∧n≤60000:=⟨N.ins.toNat,by omega,by omega⟩
 have HNI:Hid (N.ins.toNat=ni):=by show _=_;omega
 obtain ⟨F,HFX⟩:∃ F,Hid (2+ni+N.init.length=F):=⟨_,rfl⟩
 have hF:F≤17600000000000:=by have:=HFX.out;omega
 have HFF:Hid ((F:Int)=N.first):=by
  show (F:Int)=2+N.ins+N.init.length
  rw [←HFX.out,hni];omega
 obtain ⟨nn,HNN⟩:∃ n:Nat,Hid (n=F+N.tabs.length):=⟨_,rfl⟩
 have hnn:nn≤22000000000000:=by rw [HNN.out];omega
 have HSG:Hid (N.sigs=(nn:Int)):=by
  show N.first+N.tabs.length=_
  rw [←HFF.out,HNN.out];omega
 obtain ⟨ib,hib,hzb,hsb,hbb⟩:=info_bool
 have HI:=hidden hib
 have HZ:=hidden hzb
 have HS:=hidden hsb
 have HBY:=hidden hbb
 clear hib hzb hsb hbb
 obtain ⟨ic,hib,hzb,hsb,hbb⟩:=info_sl
 have HI2:=hidden hib
 have HZ2:=hidden hzb
 have HS2:=hidden hsb
 have HBY2:=hidden hbb
 have HNE:=hidden hni
 clear hib hzb hsb hbb hin hnil hni
 unfold NtS.cells
 go_enter Try.func12,Try.ntmps12
 go_upto_region 1 with fail
 generalize hW:World.alloc w _=W
 obtain ⟨pg,hpg⟩:∃ x,x=w.heap.size:=⟨_,rfl⟩
 have HB1:Hid (Below w.heap.size w W):=by rw [←hW];exact (Below.refl _ _).alloc (Nat.le_refl _) _
 have HX:Hid (BoxAt W pg S N):=by rw [←hW,hpg];exact BoxAt.new w S N
 rw [←hpg]
 have hwW:w.heap.size≤W.heap.size:=HB1.out.size
 have HAW:Hid (NtAt B W S N):=h.to (HB1.out.mono hB)
 have HTW:Hid (TrAt B W ta trs):=ht.to (HB1.out.mono hB)
 have hBW:B≤W.heap.size:=Nat.le_trans hB hwW
 clear hW hpg h ht
 have q1:=HX.out.c1
 have hm1:0+N.init.length≤maxLen:=by simp only [maxLen];omega
 have hm2:(0+N.init.length)*1≤140737488355328:=by omega
 have tok:True:=trivial
 go_wp2_with (have _t:=tok;at_builtin;(refine wpList_append_row _ rfl (.tmp 16) (.tmp 18) 30 rfl W.heap.size 4 ib _ 1 Try.underlying30 HI.out HZ.out HS.out HBY.out rfl (.slice none 0 0) 0 _ rfl (World.ownsRow_nil _ _ _ _) S.a1 S.c1 N.init rfl B HAW.out.i HNIL.out hm1 hm2 (Nat.le_refl _) ?_;intro v0 w2 hown hgrow;have HB2:=hidden (none_below hgrow);have HS0:=hidden hown;clear tok hown hgrow))
 have HS00:Hid (w2.ownsRow W.heap.size 4 1 v0 N.init.length (N.init.map bV)):=by
  have:=HS0.out
  show World.ownsRow _ _ _ _ _ _ _
  simpa using this
 clear HS0 hm1 hm2 q1
 go_wp2_with fail
 go_loopw [6,7] (fun all i' w'=>∃ (k:Nat) (rows:List RD),k≤trs.length∧i' = .int .i64 k∧Hid (w'.ownsRow W.heap.size 4 1 v0 N.init.length ((stT N N.init ((trs.take k).map TR.l)).map bV))∧Hid (w'.ownsRow W.heap.size 30 1 all k (rows.map RD.v))∧Hid (rows.map RD.l=runT N ((trs.take k).map TR.l) N.init)∧Hid (∀ r,r ∈ rows→BS w' r.v r.l∧Far all r.v∧Far v0 r.v)∧Hid (Far all v0)∧Hid (Below W.heap.size W w')) (fun _ i' _=>trs.length - (intOf i').toNat)
 case atStart =>
  exact ⟨0,[],Nat.zero_le _,rfl,HS00.out,World.ownsRow_nil _ _ _ _,rfl,fun r hr=>by simp at hr,fun x hx=>(by cases hx),HB2.out⟩
 case round =>
  clear HS00 HB2
  obtain ⟨k,rows,hk,rfl,HSO0,HO,HRL5,HRB,HFS,HBr⟩:=hrel
  by_cases hlt:k<trs.length
  ·have hltI:(k:Int)<(trs.length:Int):=by omega
   obtain ⟨t,hz⟩:=getElem_lt hlt
   obtain ⟨tb,tz,ea,htb,htc⟩:=HTW.out.row.el hz
   have htr:=hidden (HTW.out.each t (List.mem_of_getElem? hz))
   have ek:IntKind.i64.wrap ((k:Int)+1)=(k:Int)+1:=wrapI _ (by omega) (by omega)
   obtain ⟨st,HST⟩:∃ st,Hid (stT N N.init ((trs.take k).map TR.l)=st):=⟨_,rfl⟩
   have hstl:st.length=N.init.length:=by rw [←HST.out];exact stT_length N _ _ rfl HIN.out.nl
   have HSO:Hid (wr.ownsRow W.heap.size 4 1 v0 N.init.length (st.map bV)):=by have:=HSO0.out;rwa [HST.out] at this
   obtain ⟨R,HRR⟩:∃ R,Hid (cycT N t.l st=R):=⟨_,rfl⟩
   have HNS:Hid (stT N N.init ((trs.take (k+1)).map TR.l)=nextT N R):=by
    show _=_
    rw [take_next _ k t hz,List.map_append,show [t].map TR.l=[t.l] from rfl,stT_snoc,HST.out,HRR.out]
   have HNR:Hid (runT N ((trs.take (k+1)).map TR.l) N.init=runT N ((trs.take k).map TR.l) N.init++[outT N R]):=by
    show _=_
    rw [take_next _ k t hz,List.map_append,show [t].map TR.l=[t.l] from rfl,runT_snoc,HST.out,HRR.out]
   obtain ⟨row,hrow⟩:∃ r,r=t.l:=⟨_,rfl⟩
   rw [←hrow] at HRR htr
   have HBVx:Hid (Below W.heap.size W wr):=HBr.out
   have KT0:W.cell? ⟨tb,tz+k,none⟩=some (.slice t.a row.length t.c):=by have:=htc 0 _ rfl;rw [hrow];simpa using this
   generalize t.a=tA at *
   generalize t.c=tC at *
   obtain ⟨V,hV⟩:∃ V,V=wr:=⟨_,rfl⟩
   rw [←hV] at HSO HO HRB HBr
   rw [←hV]
   have hVW:W.heap.size≤V.heap.size:=HBr.out.size
   have KX:Hid (∀ w',Below V.heap.size V w'→BoxAt w' pg S N):=fun w' hb=>HX.out.to HX.out.lt (HBr.out.trans (hb.mono hVW))
   have KT:Hid (∀ w',Below V.heap.size V w'→w'.cell? ⟨tb,tz+k,none⟩=some (.slice tA row.length tC)):=fun w' hb=>((HBr.out.trans (hb.mono hVW)).cell (p:=⟨tb,tz+k,none⟩) (Nat.lt_of_lt_of_le htb hBW)).trans KT0
   have HRW:Hid (∀ w',Below V.heap.size V w'→RowAt B w' tA 1 (row.map boolC)):=fun w' hb=>htr.out.to ((HBr.out.trans (hb.mono hVW)).mono hBW)
   have HNV:Hid (NtAt B V S N):=HAW.out.to (HBr.out.mono hBW)
   have hBV:B≤V.heap.size:=Nat.le_trans hBW hVW
   subst ea
   clear hz htc hV HSO0 hrow htr KT0 HBVx
   go_wp2_with fail
   have HOv0:Hid ((V.alloc (.cells #[.bool false,.bool true] 4)).ownsRow V.heap.size 4 1 (.slice (some ⟨V.heap.size,0,none⟩) 2 2) 2 (([false,true]++inRow 0 row).map bV)):=World.ownsRow_lit V #[.bool false,.bool true] 2 (Nat.le_refl _) (by decide) rfl
   go_loopw [8,9] (fun v i' w'=>∃ (i:Nat),i≤ni∧i' = .int .i64 i∧Hid (w'.ownsRow V.heap.size 4 1 v (2+i) (([false,true]++inRow i row).map bV))∧Hid (Below V.heap.size V w')) (fun _ i' _=>ni - (intOf i').toNat)
   case atStart=>exact ⟨0,Nat.zero_le _,rfl,HOv0.out,(Below.refl _ _).alloc (Nat.le_refl _) _⟩
   case round =>
    clear HOv0
    obtain ⟨i,hi,rfl,HOv,HBv⟩:=hrel
    have q0:=(KX.out _ HBv.out).c0
    rw [HNE.out] at q0
    have ct:=KT.out _ HBv.out
    by_cases hlt2:i<ni
    ·have hltI2:(i:Int)<(ni:Int):=by omega
     have e3:IntKind.i64.wrap ((i:Int)+1)=(i:Int)+1:=wrapI _ (by omega) (by omega)
     have hm1:2+i+1≤maxLen:=by simp only [maxLen];omega
     have hm2:(2+i+1)*1≤140737488355328:=by omega
     have hsz:=HBv.out.size
     have HNX:Hid (([false,true]++inRow (i+1) row).map bV=([false,true]++inRow i row).map bV++[.bool (row[i]?.getD false)]):=by
      show _=_
      rw [inRow_next,←List.append_assoc,List.map_append];rfl
     by_cases hin:i<row.length
     ·obtain ⟨x,hx⟩:=getElem_lt hin
      obtain ⟨rb,ro,ea,hrb,cx⟩:=rowB (HRW.out _ HBv.out) hx
      rw [hx] at HNX
      simp only [Option.getD_some] at HNX
      have hinI:(i:Int)<(row.length:Int):=by omega
      rw [ea] at ct
      clear hx hrb ea
      have hm3:V.heap.size≤(wr.alloc (.cells #[.bool x] 4)).heap.size:=by simp;omega
      have tok:True:=trivial
      go_wp2_with (have _t:=tok;at_builtin;(refine wpList_append_lies _ rfl (.tmp 33) (.tmp 50) 30 rfl V.heap.size 4 ib _ 1 1 Try.underlying30 HI.out HZ.out HS.out HBY.out rfl (by decide) u8 (2+i) _ rfl (HOv.out.alloc _) ⟨wr.heap.size,0,none⟩ 1 1 [.bool x] rfl rfl (World.news_of_block (heap_new _ _)) (by simp [Value.oneCell']) (by decide) hm1 hm2 hm3 _ rfl ?_;intro g cap w5 hown hgrow hat5 hlt5;clear tok))
      have HO5:Hid (w5.ownsRow V.heap.size 4 1 (.slice (some ⟨g,0,none⟩) (2+i+1) cap) (2+(i+1)) (([false,true]++inRow (i+1) row).map bV)):=by
       show World.ownsRow _ _ _ _ _ _ _
       rw [HNX.out]
       exact hown
      have HB5:Hid (Below V.heap.size V w5):=grown_plain HBv.out HOv.out hgrow
      clear hown hgrow hat5 hlt5 hm1 hm2 hm3 HOv HBv HNX
      go_wp2
      go_roundw
      case measure=>simp [intOf];omega
      case rel=>exact ⟨i+1,by omega,by simp,HO5.out,HB5.out⟩
     ·have hinI:¬ (i:Int)<(row.length:Int):=by omega
      rw [List.getElem?_eq_none (by omega)] at HNX
      simp only [Option.getD_none] at HNX
      have hm3:V.heap.size≤(wr.alloc (.cells #[.bool false] 4)).heap.size:=by simp;omega
      have tok:True:=trivial
      go_wp2_with (have _t:=tok;at_builtin;(refine wpList_append_lies _ rfl (.tmp 33) (.tmp 50) 30 rfl V.heap.size 4 ib _ 1 1 Try.underlying30 HI.out HZ.out HS.out HBY.out rfl (by decide) u8 (2+i) _ rfl (HOv.out.alloc _) ⟨wr.heap.size,0,none⟩ 1 1 [.bool false] rfl rfl (World.news_of_block (heap_new _ _)) (by simp [Value.oneCell']) (by decide) hm1 hm2 hm3 _ rfl ?_;intro g cap w5 hown hgrow hat5 hlt5;clear tok))
      have HO5:Hid (w5.ownsRow V.heap.size 4 1 (.slice (some ⟨g,0,none⟩) (2+i+1) cap) (2+(i+1)) (([false,true]++inRow (i+1) row).map bV)):=by
       show World.ownsRow _ _ _ _ _ _ _
       rw [HNX.out]
       exact hown
      have HB5:Hid (Below V.heap.size V w5):=grown_plain HBv.out HOv.out hgrow
      clear hown hgrow hat5 hlt5 hm1 hm2 hm3 HOv HBv HNX
      go_wp2
      go_roundw
      case measure=>simp [intOf];omega
      case rel=>exact ⟨i+1,by omega,by simp,HO5.out,HB5.out⟩
    ·have hge:¬ ((i:Int)<(ni:Int)):=by omega
     obtain rfl:i=ni:=by omega
     have hm1:2+i+st.length≤maxLen:=by simp only [maxLen];omega
     have hm2:(2+i+st.length)*1≤140737488355328:=by omega
     have HSV:Hid (BS wr v0 st):=(BS.of HSO.out).to HBv.out
     have tok:True:=trivial
     go_wp2_with (have _t:=tok;at_builtin;(refine wpList_append_any _ rfl (.tmp 52) (.tmp 53) 30 rfl V.heap.size 4 ib _ 1 Try.underlying30 HI.out HZ.out HS.out HBY.out rfl u8 (2+i) _ rfl HOv.out v0 st rfl HSV.out hm1 hm2 HBv.out.size ?_;intro v6 w6 hown hgrow;have HB6:=hidden (grown_bare HBv.out HOv.out hgrow);have HO6:=hidden hown;clear tok hown hgrow))
     obtain ⟨b0,HB0⟩:∃ b0,Hid ([false,true]++inRow i row++st=b0):=⟨_,rfl⟩
     have HBL:Hid (b0.length=F):=by
      show _=_
      rw [←HB0.out,←HFX.out,List.length_append,List.length_append,inRow_length,hstl];rfl
     have HO7:Hid (w6.ownsRow V.heap.size 4 1 v6 (F+0) ((tabsN b0 (N.tabs.take 0)).map bV)):=by
      have:=HO6.out
      rw [hstl,HFX.out,←List.map_append,HB0.out] at this
      exact this
     have HRE:Hid (tabsN b0 N.tabs=R):=by
      show _=_
      rw [←HRR.out,←HB0.out];unfold cycT;rw [HNI.out]
     have HRL:Hid (R.length=nn):=by
      show _=_
      rw [←HRE.out,tabs_length,HBL.out,HNN.out]
     clear HOv HO6 HBv hm1 hm2 q0 ct HSV
     have q2:=(KX.out _ HB6.out).c2
     go_wp2_with fail
     clear q2
     go_loopw [8,10] (fun v i' w'=>∃ (j:Nat),j≤N.tabs.length∧i' = .int .i64 j∧Hid (w'.ownsRow V.heap.size 4 1 v (F+j) ((tabsN b0 (N.tabs.take j)).map bV))∧Hid (Below V.heap.size V w')) (fun _ i' _=>N.tabs.length - (intOf i').toNat)
     case atStart=>exact ⟨0,Nat.zero_le _,rfl,HO7.out,HB6.out⟩
     case round =>
      clear HO7 HB6
      obtain ⟨j,hj,rfl,HOv,HBv⟩:=hrel
      have q2:=(KX.out _ HBv.out).c2
      by_cases hlt:j<N.tabs.length
      ·have hltI:(j:Int)<(N.tabs.length:Int):=by omega
       obtain ⟨d,hd⟩:=getElem_lt hlt
       obtain ⟨b,o,ea,hlb,hc⟩:=HNV.out.t.el hd
       have hbV:b<V.heap.size:=Nat.lt_of_lt_of_le hlb hBV
       have HRI:=hidden (HNV.out.ti d (List.mem_of_getElem? hd))
       have HSB:=hidden (HIN.out.ti j d hd)
       have h4:=(HIN.out.t4 d (List.mem_of_getElem? hd)).1
       have hb0:=(HIN.out.t4 d (List.mem_of_getElem? hd)).2
       obtain ⟨vs,HVS⟩:∃ vs,Hid (tabsN b0 (N.tabs.take j)=vs):=⟨_,rfl⟩
       have hvsl:vs.length=F+j:=by
        rw [←HVS.out,tabs_length,HBL.out,List.length_take];omega
       have HNX:Hid ((tabsN b0 (N.tabs.take (j+1))).map bV=vs.map bV++[.bool (tabV d vs)]):=by
        show _=_
        rw [take_next _ j d hd,tabs_snoc,HVS.out,List.map_append];rfl
       have HTV:Hid (tabV d vs=bitAt d.bits (spell (d.ins.map (sV vs)))):=rfl
       obtain ⟨da,dc,ins,bits⟩:=d
       have KC0:Hid (∀ w',Below V.heap.size V w'→w'.cell? ⟨b,o+j*2,none⟩=some (.slice da ins.length dc)):=fun w' hb=>(hb.cell (p:=⟨b,o+j*2,none⟩) hbV).trans (hc 0 _ rfl)
       have KC1:Hid (∀ w',Below V.heap.size V w'→w'.cell? ⟨b,o+j*2+1,none⟩=some (.int .i64 bits)):=fun w' hb=>(hb.cell (p:=⟨b,o+j*2+1,none⟩) hbV).trans (hc 1 _ rfl)
       have KQ2:Hid (∀ w',Below V.heap.size V w'→w'.cell? ⟨pg,2,none⟩=some (.slice (some ⟨b,o,none⟩) N.tabs.length S.c2)):=fun w' hb=>by rw [←ea];exact (KX.out w' hb).c2
       dsimp only at HRI HSB h4 hb0 HTV
       rw [←HFF.out] at HSB
       obtain ⟨m,HM⟩:∃ m,Hid (m=ins.length):=⟨_,rfl⟩
       rw [←HM.out] at KC0 h4
       have hO:=HOv.out
       rw [HVS.out] at hO
       obtain ⟨-,av,cv,hu,hrv⟩:=ownRow (g:=bV) hO
       subst hu
       have HO2:=hidden hO
       have HRV:=hidden hrv
       have c0:=KC0.out _ HBv.out
       rw [ea] at q2
       have e3:IntKind.i64.wrap ((j:Int)+1)=(j:Int)+1:=wrapI _ (by omega) (by omega)
       clear hd hc ea hlb hO hrv HOv
       generalize tabV _ vs=tv at *
       obtain ⟨U,hU⟩:∃ U,U=wr:=⟨_,rfl⟩
       rw [←hU] at HO2 HBv q2 HRV c0
       rw [←hU]
       clear hU
       go_wp2_with fail
       clear q2 c0
       go_loopw [11,12] (fun iv i' w'=>∃ (i:Nat),i≤m∧i' = .int .i64 i∧Hid (w'.ownsRow U.heap.size 4 1 iv i (((ins.take i).map (sV vs)).map bV))∧Hid (Below U.heap.size U w')) (fun _ i' _=>m - (intOf i').toNat)
       case atStart=>exact ⟨0,Nat.zero_le _,rfl,World.ownsRow_nil _ _ _ _,Below.refl _ _⟩
       case round =>
        obtain ⟨i,hi,rfl,HOi,HBi⟩:=hrel
        have HBVi:Hid (Below V.heap.size V wr):=HBv.out.trans (HBi.out.mono HBv.out.size)
        have q2:=KQ2.out _ HBVi.out
        have c0:=KC0.out _ HBVi.out
        by_cases hlt:i<m
        ·have hltI2:(i:Int)<(m:Int):=by omega
         obtain ⟨s,hs⟩:=getElem_lt (show i<ins.length by rw [←HM.out];exact hlt)
         obtain ⟨b',o',ea',hlb',hc'⟩:=HRI.out.int hs
         have hsb:=HSB.out s (List.mem_of_getElem? hs)
         obtain ⟨x,hx⟩:=getElem_lt (l:=vs) (k:=s.toNat) (by rw [hvsl];omega)
         have hsx:sV vs s=x:=by unfold sV;rw [hx];rfl
         obtain ⟨vb,vo,va,hvb,hvc⟩:=rowB HRV.out hx
         have cx:wr.cell? ⟨b',o'+i,none⟩=some (.int .i64 s):=(HBVi.out.cell (p:=⟨b',o'+i,none⟩) (Nat.lt_of_lt_of_le hlb' hBV)).trans hc'
         have c1:wr.cell? ⟨vb,vo+s.toNat,none⟩=some (.bool x):=(HBi.out.cell (p:=⟨vb,vo+s.toNat,none⟩) hvb).trans hvc
         have HNI2:Hid (((ins.take (i+1)).map (sV vs)).map bV=((ins.take i).map (sV vs)).map bV++[.bool x]):=by
          show _=_
          rw [take_next _ i _ hs,List.map_append,List.map_append]
          show _++[bV (sV vs s)]=_
          rw [hsx];rfl
         have hs0:=hsb.1
         have hs1:s<((F+j:Nat):Int):=by have:=hsb.2;omega
         rw [va]
         rw [ea'] at c0
         have ei:IntKind.i64.wrap ((i:Int)+1)=(i:Int)+1:=wrapI _ (by omega) (by omega)
         have hm1:i+1≤maxLen:=by simp only [maxLen];omega
         have hm2:(i+1)*1≤140737488355328:=by omega
         have hsz:=HBi.out.size
         have hm3:U.heap.size≤(wr.alloc (.cells #[.bool x] 4)).heap.size:=by simp;omega
         clear hs hc' ea' hlb' hsb hx hvc hsx
         have tok:True:=trivial
         go_wp2_with (have _t:=tok;at_builtin;(refine wpList_append_lies _ rfl (.tmp 73) (.tmp 86) 30 rfl U.heap.size 4 ib _ 1 1 Try.underlying30 HI.out HZ.out HS.out HBY.out rfl (by decide) u11 (i) _ rfl (HOi.out.alloc _) ⟨wr.heap.size,0,none⟩ 1 1 [.bool x] rfl rfl (World.news_of_block (heap_new _ _)) (by simp [Value.oneCell']) (by decide) hm1 hm2 hm3 _ rfl ?_;intro g cap w5 hown hgrow hat5 hlt5;clear tok))
         have HO5:Hid (w5.ownsRow U.heap.size 4 1 (.slice (some ⟨g,0,none⟩) (i+1) cap) (i+1) (((ins.take (i+1)).map (sV vs)).map bV)):=by
          show World.ownsRow _ _ _ _ _ _ _
          rw [HNI2.out]
          exact hown
         have HB5:Hid (Below U.heap.size U w5):=grown_plain HBi.out HOi.out hgrow
         clear hown hgrow hat5 hlt5 hm1 hm2 hm3 HOi HBi HNI2 c0 c1 cx q2
         go_wp2
         go_roundw
         case measure=>simp [intOf];omega
         case rel=>exact ⟨i+1,by omega,by simp,HO5.out,HB5.out⟩
        ·have hge:¬ ((i:Int)<(m:Int)):=by omega
         have HOi6:Hid (wr.ownsRow U.heap.size 4 1 u11 m ((ins.map (sV vs)).map bV)):=by
          have:=HOi.out
          rw [List.take_of_length_le (by have:=HM.out;omega),show i=m by omega] at this
          exact this
         obtain ⟨hml,ia,ic',hiu,hri⟩:=ownRow (g:=bV) HOi6.out
         subst hiu
         have TC:Hid (Calls Try.prog 23 #[.int .i64 bits,.slice ia m ic'] wr fun e w'=>e = .returned (.bool tv)∧w'=wr):=by
          have:=told_doc wr ia ic' (ins.map (sV vs)) hri (by rw [←hml];exact h4) bits hb0
          rw [←hml,←HTV.out] at this
          exact this
         have HOv9:Hid (wr.ownsRow V.heap.size 4 1 (.slice av (F+j) cv) (F+j) (vs.map bV)):=own_below HO2.out HBi.out
         have c1:=KC1.out _ HBVi.out
         have hm1:F+j+1≤maxLen:=by simp only [maxLen];omega
         have hm2:(F+j+1)*1≤140737488355328:=by omega
         have hsz:=HBVi.out.size
         have hm3:V.heap.size≤(wr.alloc (.cells #[.bool tv] 4)).heap.size:=by simp;omega
         clear HOi HOi6 hri hml HO2 HRV
         go_wp2_with fail
         go_at_call 23
         refine TC.out.mono ?_
         rintro e v9 ⟨rfl,hv9⟩
         rw [hv9]
         clear hv9 TC
         have tok:True:=trivial
         go_wp2_with (have _t:=tok;at_builtin;(refine wpList_append_lies _ rfl (.tmp 88) (.tmp 97) 30 rfl V.heap.size 4 ib _ 1 1 Try.underlying30 HI.out HZ.out HS.out HBY.out rfl (by decide) (.slice av (F+j) cv) (F+j) _ rfl (HOv9.out.alloc _) ⟨wr.heap.size,0,none⟩ 1 1 [.bool tv] rfl rfl (World.news_of_block (heap_new _ _)) (by simp [Value.oneCell']) (by decide) hm1 hm2 hm3 _ rfl ?_;intro g cap w5 hown hgrow hat5 hlt5;clear tok))
         have HO5:Hid (w5.ownsRow V.heap.size 4 1 (.slice (some ⟨g,0,none⟩) (F+j+1) cap) (F+(j+1)) ((tabsN b0 (N.tabs.take (j+1))).map bV)):=by
          show World.ownsRow _ _ _ _ _ _ _
          rw [HNX.out]
          exact hown
         have HB5:Hid (Below V.heap.size V w5):=grown_plain HBVi.out HOv9.out hgrow
         clear hown hgrow hat5 hlt5 hm1 hm2 hm3 HOv9 HNX c0 c1 q2
         go_wp2
         go_roundw
         case measure=>simp [intOf];omega
         case rel=>exact ⟨j+1,by omega,by simp,HO5.out,HB5.out⟩
      ·have hge:¬ ((j:Int)<(N.tabs.length:Int)):=by omega
       have HOv6:Hid (wr.ownsRow V.heap.size 4 1 u8 nn (R.map bV)):=by
        have:=HOv.out
        rw [List.take_of_length_le (by omega),show j=N.tabs.length by omega,HRE.out,←HNN.out] at this
        exact this
       have HFV0:Hid (∀ x,u8.ownBlock=some x→V.heap.size≤x):=fun x hx=>(HOv6.out.lt x hx).1
       clear HOv
       have q4:=(KX.out _ HBv.out).c4
       obtain ⟨U,hU⟩:∃ U,U=wr:=⟨_,rfl⟩
       have HOv2:=HOv6
       rw [←hU] at HOv2 HBv q4 q2
       rw [←hU]
       clear hU HOv6
       have HBU:=HBv
       clear HBv
       obtain ⟨-,av,cv,hu,hrv⟩:=ownRow (g:=bV) HOv2.out
       subst hu
       have HRV:=hidden hrv
       have HFV:Hid (∀ b o,av=some ⟨b,o,none⟩→u6.ownBlock≠some b):=fun b o e e'=>by
        have h1:=HFV0.out b (by rw [e];rfl)
        have h2:=(HO.out.lt b e').2
        omega
       have HFW:Hid (∀ b o,av=some ⟨b,o,none⟩→v0.ownBlock≠some b):=fun b o e e'=>by
        have h1:=HFV0.out b (by rw [e];rfl)
        have h2:=(HSO.out.lt b e').2
        omega
       clear HFV0
       clear hrv
       go_wp2_with fail
       clear q4 q2
       go_loopw [13,14] (fun ov i' w'=>∃ (j:Nat),j≤N.outs.length∧i' = .int .i64 j∧Hid (w'.ownsRow U.heap.size 4 1 ov j (((N.outs.take j).map (sV R)).map bV))∧Hid (Below U.heap.size U w')) (fun _ i' _=>N.outs.length - (intOf i').toNat)
       case atStart=>exact ⟨0,Nat.zero_le _,rfl,World.ownsRow_nil _ _ _ _,Below.refl _ _⟩
       case round =>
        obtain ⟨j,hj,rfl,HOo,HBo⟩:=hrel
        have HBVo:Hid (Below V.heap.size V wr):=HBU.out.trans (HBo.out.mono HBU.out.size)
        have q4:=(KX.out _ HBVo.out).c4
        by_cases hlt:j<N.outs.length
        ·have hltI:(j:Int)<(N.outs.length:Int):=by omega
         obtain ⟨s,hs⟩:=getElem_lt hlt
         obtain ⟨b,o,ea,hlb,hc⟩:=HNV.out.o.int hs
         have hsb:=HIN.out.oi s (List.mem_of_getElem? hs)
         rw [HSG.out] at hsb
         obtain ⟨x,hx⟩:=getElem_lt (l:=R) (k:=s.toNat) (by rw [HRL.out];omega)
         have hsx:sV R s=x:=by unfold sV;rw [hx];rfl
         obtain ⟨vb,vo,va,hvb,hvc⟩:=rowB HRV.out hx
         have c0:wr.cell? ⟨b,o+j,none⟩=some (.int .i64 s):=(HBVo.out.cell (p:=⟨b,o+j,none⟩) (Nat.lt_of_lt_of_le hlb hBV)).trans hc
         have c1:wr.cell? ⟨vb,vo+s.toNat,none⟩=some (.bool x):=(HBo.out.cell (p:=⟨vb,vo+s.toNat,none⟩) hvb).trans hvc
         have HNX:Hid (((N.outs.take (j+1)).map (sV R)).map bV=((N.outs.take j).map (sV R)).map bV++[.bool x]):=by
          show _=_
          rw [take_next _ j _ hs,List.map_append,List.map_append]
          show _++[bV (sV R s)]=_
          rw [hsx];rfl
         have hs0:=hsb.1
         have hs1:=hsb.2
         rw [va]
         rw [ea] at q4
         have e3:IntKind.i64.wrap ((j:Int)+1)=(j:Int)+1:=wrapI _ (by omega) (by omega)
         have hm1:j+1≤maxLen:=by simp only [maxLen];omega
         have hm2:(j+1)*1≤140737488355328:=by omega
         have hsz:=HBo.out.size
         have hm3:U.heap.size≤(wr.alloc (.cells #[.bool x] 4)).heap.size:=by simp;omega
         clear hs hc ea hlb hsb hx hvc hsx
         have tok:True:=trivial
         go_wp2_with (have _t:=tok;at_builtin;(refine wpList_append_lies _ rfl (.tmp 106) (.tmp 115) 30 rfl U.heap.size 4 ib _ 1 1 Try.underlying30 HI.out HZ.out HS.out HBY.out rfl (by decide) u13 (j) _ rfl (HOo.out.alloc _) ⟨wr.heap.size,0,none⟩ 1 1 [.bool x] rfl rfl (World.news_of_block (heap_new _ _)) (by simp [Value.oneCell']) (by decide) hm1 hm2 hm3 _ rfl ?_;intro g cap w5 hown hgrow hat5 hlt5;clear tok))
         have HO5:Hid (w5.ownsRow U.heap.size 4 1 (.slice (some ⟨g,0,none⟩) (j+1) cap) (j+1) (((N.outs.take (j+1)).map (sV R)).map bV)):=by
          show World.ownsRow _ _ _ _ _ _ _
          rw [HNX.out]
          exact hown
         have HB5:Hid (Below U.heap.size U w5):=grown_plain HBo.out HOo.out hgrow
         clear hown hgrow hat5 hlt5 hm1 hm2 hm3 HOo HBo HNX c0 c1 q4
         go_wp2
         go_roundw
         case measure=>simp [intOf];omega
         case rel=>exact ⟨j+1,by omega,by simp,HO5.out,HB5.out⟩
        ·have hge:¬ ((j:Int)<(N.outs.length:Int)):=by omega
         have HOo6:Hid (wr.ownsRow U.heap.size 4 1 u13 N.outs.length ((outT N R).map bV)):=by
          have:=HOo.out
          rw [List.take_of_length_le (by omega),show j=N.outs.length by omega] at this
          exact this
         clear HOo
         have hol6:N.outs.length=(outT N R).length:=by unfold outT;simp
         rw [hol6] at HOo6
         clear hol6
         obtain ⟨ox,HOX⟩:∃ ox,Hid (outT N R=ox):=⟨_,rfl⟩
         rw [HOX.out] at HOo6 HNR
         obtain ⟨-,oa,oc,hvo,-⟩:=ownRow (g:=bV) HOo6.out
         subst hvo
         have HBW2:Hid (Below V.heap.size V wr):=HBVo.out
         have HO3:Hid (wr.ownsRow W.heap.size 30 1 u6 k (rows.map RD.v)):=own_below HO.out HBW2.out
         have HRB3:Hid (∀ r,r ∈ rows→BS wr r.v r.l∧Far u6 r.v∧Far v0 r.v):=fun r hr=>⟨(HRB.out r hr).1.to HBW2.out,(HRB.out r hr).2⟩
         have HFO:Hid (Far u6 (.slice oa ox.length oc)):=far_own HO.out HOo6.out HBU.out.size
         have HFS':Hid (Far v0 (.slice oa ox.length oc)):=far_own HSO.out HOo6.out HBU.out.size
         have HBO:Hid (BS wr (.slice oa ox.length oc) ox):=BS.of HOo6.out
         have HST3:Hid (wr.ownsRow W.heap.size 4 1 v0 N.init.length (st.map bV)):=own_below HSO.out HBW2.out
         have HW2:Hid (Below W.heap.size W wr):=HBr.out.trans (HBW2.out.mono HBr.out.size)
         have HOv3:Hid (RowAt wr.heap.size wr av 1 (R.map boolC)):=(HRV.out.to HBo.out).mono HBo.out.size
         have hsz:=HW2.out.size
         have hm1:k+1≤maxLen:=by simp only [maxLen];omega
         have hm2:(k+1)*24≤140737488355328:=by omega
         have hm3:W.heap.size≤(wr.alloc (.cells #[.slice oa ox.length oc] 30)).heap.size:=by simp;omega
         clear HOo6 HO HRB HBVo HBo HBU HOv2 HRV HSO
         have tok:True:=trivial
         go_wp2_with (have _t:=tok;at_builtin;(refine wpList_append_lies _ rfl (.tmp 117) (.tmp 119) 27 rfl W.heap.size 30 ic _ 1 24 Try.underlying27 HI2.out HZ2.out HS2.out HBY2.out rfl (by decide) u6 (k) _ rfl (HO3.out.alloc _) ⟨wr.heap.size,0,none⟩ 1 1 [.slice oa ox.length oc] rfl rfl (World.news_of_block (heap_new _ _)) (by simp [Value.oneCell']) (by decide) hm1 hm2 hm3 _ rfl ?_;intro g cap w5 hown hgrow hat5 hlt5;clear tok))
         have hb25:Below wr.heap.size wr (wr.alloc (.cells #[.slice oa ox.length oc] 30)):=(Below.refl _ _).alloc (Nat.le_refl _) _
         have HAL:Hid (∀ v l,BS wr v l→Far u6 v→BS w5 v l∧Far (.slice (some ⟨g,0,none⟩) (k+1) cap) v):=fun v l hv hf=>by
          have hv1:BS (wr.alloc (.cells #[.slice oa ox.length oc] 30)) v l:=hv.to hb25
          exact ⟨hv1.kept hgrow hf,hf.new hv1 hat5 (Nat.le_refl _)⟩
         have HO5:Hid (w5.ownsRow W.heap.size 30 1 (.slice (some ⟨g,0,none⟩) (k+1) cap) (k+1) ((rows++[(RD.mk (.slice oa ox.length oc) ox)]).map RD.v)):=by
          show World.ownsRow _ _ _ _ _ _ _
          rw [List.map_append]
          exact hown
         have HB5:Hid (Below W.heap.size W w5):=grown_plain HW2.out HO3.out hgrow
         have HR5:Hid (∀ r,r ∈ rows++[(RD.mk (.slice oa ox.length oc) ox)]→BS w5 r.v r.l∧Far (.slice (some ⟨g,0,none⟩) (k+1) cap) r.v∧Far v0 r.v):=by
          intro r hr
          rcases List.mem_append.1 hr with hr | hr
          ·have:=HAL.out _ _ (HRB3.out r hr).1 (HRB3.out r hr).2.1
           exact ⟨this.1,this.2,(HRB3.out r hr).2.2⟩
          ·rw [List.mem_singleton.1 hr]
           have:=HAL.out _ _ HBO.out HFO.out
           exact ⟨this.1,this.2,HFS'.out⟩
         have HS5:Hid (w5.ownsRow W.heap.size 4 1 v0 N.init.length (st.map bV)∧Far (.slice (some ⟨g,0,none⟩) (k+1) cap) v0):=by
          have h1:=HAL.out _ _ (BS.of HST3.out) HFS.out
          refine ⟨(own_below HST3.out hb25).kept hgrow ?_,h1.2⟩
          cases e:v0.ownBlock with
          | none=>exact .inl rfl
          | some y=>exact .inr (fun e'=>HFS.out y e'.symm e)
         have HV5:Hid (∀ (i:Nat) (x:Bool),R[i]?=some x→∃ b o,av=some ⟨b,o,none⟩∧W.heap.size≤W.heap.size∧w5.cell? ⟨b,o+i,none⟩=some (.bool x)):=fun i x hx=>by
          obtain ⟨b,o,e1,e2,e3⟩:=rowB HOv3.out hx
          refine ⟨b,o,e1,Nat.le_refl _,?_⟩
          rw [hgrow.cell_far ⟨b,o+i,none⟩ (Nat.lt_of_lt_of_le e2 hb25.size) ?_]
          ·exact (hb25.cell (p:=⟨b,o+i,none⟩) e2).trans e3
          ·intro e
           exact HFV.out b o e1 e.symm
         have HL5:Hid ((rows++[(RD.mk (.slice oa ox.length oc) ox)]).map RD.l=runT N ((trs.take (k+1)).map TR.l) N.init):=by
          show _=_
          rw [List.map_append,HNR.out,HRL5.out];rfl
         clear hown hgrow hat5 hlt5 hm1 hm2 hm3 HO3 HW2 HAL HNR HBO HFO HFS' HRB3 HFS hb25 HOv3 HST3 HBW2
         obtain ⟨U3,hU3⟩:∃ U,U=w5:=⟨_,rfl⟩
         rw [←hU3] at HO5 HB5 HR5 HS5 HV5
         rw [←hU3]
         clear hU3
         have q3:=(HX.out.to HX.out.lt HB5.out).c3
         go_wp2_with fail
         clear q3
         go_loopw [15] (fun i' w'=>∃ (j:Nat),j≤N.next.length∧i' = .int .i64 j∧Hid (w'.ownsRow W.heap.size 4 1 v0 N.init.length ((((N.next.take j).map (sV R))++st.drop j).map bV))∧Hid (U3.grownBy w' v0.ownBlock)) (fun i' _=>N.next.length - (intOf i').toNat)
         case atStart=>exact ⟨0,Nat.zero_le _,rfl,by show World.ownsRow _ _ _ _ _ _ _;simpa using HS5.out.1,grown_refl _ _⟩
         case round =>
          obtain ⟨j,hj,rfl,HON,HGN⟩:=hrel
          have HBN:Hid (Below W.heap.size W wr):=HB5.out.trans (below_grown HGN.out HB5.out.size (fun y hy=>(HS5.out.1.lt y hy).1))
          have q3:=(HX.out.to HX.out.lt HBN.out).c3
          by_cases hlt:j<N.next.length
          ·have hltI:(j:Int)<(N.next.length:Int):=by omega
           obtain ⟨s,hs⟩:=getElem_lt hlt
           obtain ⟨b,o,ea,hlb,hc⟩:=HAW.out.n.int hs
           have hsb:=HIN.out.ni s (List.mem_of_getElem? hs)
           rw [HSG.out] at hsb
           obtain ⟨x,hx⟩:=getElem_lt (l:=R) (k:=s.toNat) (by rw [HRL.out];omega)
           have hsx:sV R s=x:=by unfold sV;rw [hx];rfl
           obtain ⟨vb,vo,va,-,hvc⟩:=HV5.out _ _ hx
           have c0:wr.cell? ⟨b,o+j,none⟩=some (.int .i64 s):=(HBN.out.cell (p:=⟨b,o+j,none⟩) (Nat.lt_of_lt_of_le hlb hBW)).trans hc
           have c1:wr.cell? ⟨vb,vo+s.toNat,none⟩=some (.bool x):=(HGN.out.cell_far ⟨vb,vo+s.toNat,none⟩ (World.block_lt_of_cell? _ _ hvc) (fun e=>HFW.out vb vo va e.symm)).trans hvc
           have hnl:=HIN.out.nl
           rcases HON.out.2 with ⟨hn0,hn1⟩ | ⟨gs,cap2,cur,hv5,-⟩
           ·exfalso;omega
           have hs0:=hsb.1
           have hs1:=hsb.2
           subst hv5
           have hcl:=HON.out.cellAt j (by omega)
           have hfz:=HON.out.frozenAt j
           have hold:∃ old,wr.cell? ⟨gs,j,none⟩=some old:=by
            rw [hcl]
            have hL:j<((((N.next.take j).map (sV R))++st.drop j).map bV).length:=by simp;omega
            exact ⟨_,List.getElem?_eq_getElem hL⟩
           obtain ⟨old,hold⟩:=hold
           have HSTO:=hidden (HON.out.stored j (.bool x))
           have HNX:Hid (((((N.next.take j).map (sV R))++st.drop j).map bV).set j (.bool x)=((((N.next.take (j+1)).map (sV R))++st.drop (j+1)).map bV)):=by
            show _=_
            have e:((N.next.take j++[s]).map (sV R))=((N.next.take j).map (sV R))++[x]:=by rw [List.map_append];simp [hsx]
            rw [take_next _ j _ hs,e]
            exact set_next _ _ j _ (by simp;omega) (by omega)
           rw [va]
           rw [ea] at q3
           have e3:IntKind.i64.wrap ((j:Int)+1)=(j:Int)+1:=wrapI _ (by omega) (by omega)
           have hjI2:(j:Int)<(N.init.length:Int):=by omega
           clear hs hc ea hlb hsb hx hvc hsx hcl HON
           go_wp2
           go_roundw
           case measure=>simp [intOf];omega
           case rel=>exact ⟨j+1,by omega,by simp,by show World.ownsRow _ _ _ _ _ _ _;rw [←HNX.out];exact HSTO.out.1,grown_trans HGN.out HSTO.out.2⟩
          ·have hge:¬ ((j:Int)<(N.next.length:Int)):=by omega
           have HSN:Hid (wr.ownsRow W.heap.size 4 1 v0 N.init.length ((stT N N.init ((trs.take (k+1)).map TR.l)).map bV)):=by
            have:=HON.out
            rw [List.take_of_length_le (by omega),List.drop_eq_nil_of_le (by have:=HIN.out.nl;omega),List.append_nil] at this
            show World.ownsRow _ _ _ _ _ _ _
            rw [HNS.out]
            exact this
           have HFG:Hid (Far v0 (.slice (some ⟨g,0,none⟩) (k+1) cap)):=HS5.out.2.symm
           have HAN:Hid (wr.ownsRow W.heap.size 30 1 (.slice (some ⟨g,0,none⟩) (k+1) cap) (k+1) ((rows++[(RD.mk (.slice oa ox.length oc) ox)]).map RD.v)):=HO5.out.kept HGN.out (.inr (fun e=>HFG.out g (by rw [←e];rfl) rfl))
           have HRN:Hid (∀ r,r ∈ rows++[(RD.mk (.slice oa ox.length oc) ox)]→BS wr r.v r.l∧Far (.slice (some ⟨g,0,none⟩) (k+1) cap) r.v∧Far v0 r.v):=fun r hr=>⟨(HR5.out r hr).1.kept HGN.out (HR5.out r hr).2.2,(HR5.out r hr).2⟩
           have HFN:Hid (Far (.slice (some ⟨g,0,none⟩) (k+1) cap) v0):=HS5.out.2
           clear HON HO5 HR5 HS5 HV5 HGN HB5
           go_wp2
           go_roundw
           case measure=>simp [intOf];omega
           case rel=>exact ⟨k+1,_,by omega,by simp,HSN.out,HAN.out,HL5.out,HRN.out,HFN.out,HBN.out⟩
  ·have hge:¬ ((k:Int)<(trs.length:Int)):=by omega
   have HO6:Hid (wr.ownsRow W.heap.size 30 1 u6 trs.length (rows.map RD.v)):=by
    have:=HO.out
    rwa [show k=trs.length by omega] at this
   have HL6:Hid (rows.map RD.l=runT N (trs.map TR.l) N.init):=by
    have:=HRL5.out
    rwa [List.take_of_length_le (by omega)] at this
   clear HO HRL5
   go_wp2
   go_ret
   exact ⟨_,rfl,rows,own_mono HO6.out hwW,HL6.out,fun r hr=>(HRB.out r hr).1,HB1.out.trans (HBr.out.mono hwW)⟩
end Go.Proofs.Ytlaljeobdddegaa.L
