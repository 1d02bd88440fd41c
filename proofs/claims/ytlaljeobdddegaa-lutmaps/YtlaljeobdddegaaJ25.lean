import Derived.Test.YtlaljeobdddegaaJ24
namespace Go.Proofs.Ytlaljeobdddegaa.L
open Go.RowKit
set_option maxRecDepth 100000 in
set_option maxHeartbeats 16000000 in
theorem depth_doc (B:Nat) (w:World) (S:NtS) (N:NtD) (h:NtAt B w S N) (hB:B≤w.heap.size) (hin:NtIn N) :
  Calls Try.prog 14 #[.agg (S.cells N)] w fun e w'=>e = .returned (.int .i64 (depN N))∧Below w.heap.size w w':=by
 have HIN:=hidden hin
 have i0:=hin.i0
 have i1:=hin.i1
 have il:=hin.il
 have tl:=hin.tl
 have ol:=hin.ol
 have nl:N.next.length≤17592186044416:=by rw [hin.nl];exact il
 have SA:Hid (∀ w,Calls Try.prog 22 #[.agg #[.int .i64 N.ins,.slice S.a1 N.init.length S.c1,.slice S.a2 N.tabs.length S.c2,.slice S.a3 N.next.length S.c3,.slice S.a4 N.outs.length S.c4]] w fun e w'=>e = .returned (.int .i64 N.sigs)∧Below w.heap.size w w'):=fun w=>signals_doc w S N i0 i1 h.li h.lt
 obtain ⟨f,HFF⟩:∃ f:Nat,Hid ((f:Int)=N.first):=⟨N.first.toNat,by have:N.first=2+N.ins+N.init.length:=rfl;show _=_;omega⟩
 have HFV:Hid ((f:Int)=2+N.ins+N.init.length):=HFF.out
 have hf:f≤17600000000000:=by have:=HFV.out;omega
 obtain ⟨nn,HNN⟩:∃ n:Nat,Hid (n=f+N.tabs.length):=⟨_,rfl⟩
 have hnn:nn≤22000000000000:=by rw [HNN.out];omega
 have HSG:Hid (N.sigs=(nn:Int)):=by
  show N.first+N.tabs.length=_
  rw [←HFF.out,HNN.out];omega
 rw [HSG.out] at SA
 obtain ⟨ic,hi,hz,hs,hby⟩:=info_int
 have HI:=hidden hi
 have HZ:=hidden hz
 have HSI:=hidden hs
 have HBY:=hidden hby
 clear hi hz hs hby hin
 unfold NtS.cells
 go_enter Try.func14,Try.ntmps14
 go_upto_region 1 with fail
 generalize hW:World.alloc w _=W
 obtain ⟨pg,hpg⟩:∃ x,x=w.heap.size:=⟨_,rfl⟩
 have HB1:Hid (Below w.heap.size w W):=by rw [←hW];exact (Below.refl _ _).alloc (Nat.le_refl _) _
 have HX:Hid (BoxAt W pg S N):=by rw [←hW,hpg];exact BoxAt.new w S N
 rw [←hpg]
 have hwW:w.heap.size≤W.heap.size:=HB1.out.size
 have HAW:Hid (NtAt B W S N):=h.to (HB1.out.mono hB)
 have hBW:B≤W.heap.size:=Nat.le_trans hB hwW
 clear hW hpg h
 have q0:=HX.out.c0
 have q1:=HX.out.c1
 have q2:=HX.out.c2
 have q3:=HX.out.c3
 have q4:=HX.out.c4
 go_upto_region 2 with fail
 rw [←HFV.out]
 go_wp2_with fail
 go_at_call 22
 refine (SA.out _).mono ?_
 rintro e w2 ⟨rfl,hb2⟩
 have HB2:=hidden hb2
 have h2s:=hb2.size
 clear hb2 q0 q1 q2 q3 q4 SA
 have hmkb:ic.bytes*nn≤281474976710656:=by rw [HBY.out];omega
 have hmx:nn≤maxLen:=by simp only [maxLen];omega
 have tok:True:=trivial
 go_wp2_with (have _t:=tok;at_make;(refine wpList_make_full _ rfl (.tmp 19) (.tmp 19) 24 rfl W.heap.size 3 ic _ 1 Try.underlying24 HI.out HZ.out HSI.out .i64 .i64 (nn:Int) (nn:Int) nn rfl rfl rfl rfl hmkb hmx h2s ?_;intro w3 hown3 hgrow3;have HB3:Hid (Below W.heap.size W w3):=HB2.out.trans ((none_below hgrow3).mono h2s);have HOM:=hidden hown3;have q2':=(HX.out.to HX.out.lt HB3.out).c2;clear tok hown3 hgrow3))
 obtain ⟨g,hg⟩:∃ x,x=w2.heap.size:=⟨_,rfl⟩
 rw [←hg] at HOM
 rw [←hg]
 have hgW:W.heap.size≤g:=by omega
 have HO0:Hid (w3.ownsRow W.heap.size 3 1 (.slice (some ⟨g,0,none⟩) nn nn) nn ((dRow N f 0).map iV)):=by
  have:=HOM.out
  rw [made_zero] at this
  have e:dRow N f 0=List.replicate nn 0:=by
   unfold dRow dsN
   simp only [List.take_zero,List.foldl_nil,Nat.sub_zero]
   rw [List.replicate_append_replicate,HNN.out]
  rw [e]
  exact this
 clear HOM hg q2'
 go_loopw [5] (fun i' w'=>∃ (k:Nat),k≤N.tabs.length∧i' = .int .i64 k∧Hid (w'.ownsRow W.heap.size 3 1 (.slice (some ⟨g,0,none⟩) nn nn) nn ((dRow N f k).map iV))∧Hid (Below W.heap.size W w')) (fun i' _=>N.tabs.length - (intOf i').toNat)
 case atStart=>exact ⟨0,Nat.zero_le _,rfl,HO0.out,HB3.out⟩
 case round =>
  clear HO0
  obtain ⟨k,hk,rfl,HO,HBr⟩:=hrel
  have q2:wr.cell? ⟨pg,2,none⟩=some (.slice S.a2 N.tabs.length S.c2):=(HX.out.to HX.out.lt HBr.out).c2
  by_cases hlt:k<N.tabs.length
  ·have hltI:(k:Int)<(N.tabs.length:Int):=by omega
   obtain ⟨d,hd⟩:=getElem_lt hlt
   obtain ⟨b,o,ea,hlb,hc⟩:=HAW.out.t.el hd
   have hbW:b<W.heap.size:=Nat.lt_of_lt_of_le hlb hBW
   have HRI:=hidden (HAW.out.ti d (List.mem_of_getElem? hd))
   have HSB:=hidden (HIN.out.ti k d hd)
   have h4:=(HIN.out.t4 d (List.mem_of_getElem? hd)).1
   have HNX:=hidden (dRow_next (f:=f) hd)
   obtain ⟨da,dc,ins,bits⟩:=d
   have c0:wr.cell? ⟨b,o+k*2,none⟩=some (.slice da ins.length dc):=(HBr.out.cell (p:=⟨b,o+k*2,none⟩) hbW).trans (hc 0 _ rfl)
   dsimp only at HRI HSB HNX h4
   obtain ⟨D,HDD⟩:∃ D,Hid (D=dsN f (N.tabs.take k)):=⟨_,rfl⟩
   rw [←HDD.out] at HNX
   have HDC:Hid (∀ s:Int,0≤s→s<(f:Int)+k→wr.cell? ⟨g,s.toNat,none⟩=some (.int .i64 (D.getD s.toNat 0))):=fun s h0 h1=>by
    have:=HO.out.cellAt s.toNat (by rw [HNN.out];omega)
    rw [this,List.getElem?_map,dRow_at hk h0 h1,HDD.out]
    rfl
   have HDB:=hidden (maxD_le (ds:=D) (b:=(N.tabs.length:Int)) (by omega) (fun x hx=>by
    rw [HDD.out] at hx
    have:=dsN_le f (N.tabs.take k) x hx
    rw [List.length_take] at this
    omega))
   obtain ⟨m,HM⟩:∃ m,Hid (m=ins.length):=⟨_,rfl⟩
   rw [←HM.out] at c0 h4
   have e2:IntKind.i64.wrap ((k:Int)+1)=(k:Int)+1:=wrapI _ (by omega) (by omega)
   have HQ2:=hidden (show ∀ w',w'=wr→w'.cell? ⟨pg,2,none⟩=some (.slice (some ⟨b,o,none⟩) N.tabs.length S.c2) from fun w' e=>by rw [e,←ea];exact q2)
   have HC0:=hidden (show ∀ w',w'=wr→w'.cell? ⟨b,o+k*2,none⟩=some (.slice da m dc) from fun w' e=>by rw [e];exact c0)
   rw [ea] at q2
   rw [HFF.out.symm] at HSB
   clear hd hc ea hlb
   obtain ⟨U,hU⟩:∃ U,U=wr:=⟨_,rfl⟩
   rw [←hU] at HO HBr HDC HQ2 HC0 q2 c0
   rw [←hU]
   clear hU
   go_wp2_with fail
   clear q2 c0
   go_loopw [6,7] (fun m' j' w'=>∃ (j:Nat) (x:Int),j≤m∧j' = .int .i64 j∧m' = .int .i64 x∧Hid (x=maxD D (ins.take j))∧Hid (w'=U)) (fun _ j' _=>m - (intOf j').toNat)
   case atStart=>exact ⟨0,0,Nat.zero_le _,rfl,rfl,rfl,rfl⟩
   case round =>
    obtain ⟨j,x,hj,rfl,rfl,HX',HU⟩:=hrel
    have q2:=HQ2.out _ HU.out
    have c0:=HC0.out _ HU.out
    by_cases hjl:j<m
    ·have hjI:(j:Int)<(m:Int):=by omega
     obtain ⟨s,hs⟩:=getElem_lt (show j<ins.length by rw [←HM.out];exact hjl)
     obtain ⟨b',o',ea',hlb',hc'⟩:=HRI.out.int hs
     have cx:wr.cell? ⟨b',o'+j,none⟩=some (.int .i64 s):=by
      rw [HU.out]
      exact (HBr.out.cell (p:=⟨b',o'+j,none⟩) (Nat.lt_of_lt_of_le hlb' hBW)).trans hc'
     have hsb:=HSB.out s (List.mem_of_getElem? hs)
     have cd:wr.cell? ⟨g,s.toNat,none⟩=some (.int .i64 (D.getD s.toNat 0)):=by rw [HU.out];exact HDC.out s hsb.1 hsb.2
     have hs0:=hsb.1
     have hs1:s<(nn:Int):=by have:=HNN.out;have:=hsb.2;omega
     have HNJ:Hid (maxD D (ins.take (j+1))=mostI x (D.getD s.toNat 0)):=by
      show _=_
      rw [take_next _ j _ hs,maxD_snoc,HX'.out]
     have MC:=hidden (most_doc wr x (D.getD s.toNat 0))
     have ej:IntKind.i64.wrap ((j:Int)+1)=(j:Int)+1:=wrapI _ (by omega) (by omega)
     rw [ea'] at c0
     generalize D.getD s.toNat 0=ds at *
     generalize mostI x ds=mx at *
     clear hs hc' ea' hlb' hsb
     go_wp2_with fail
     go_at_call 25
     refine MC.out.mono ?_
     rintro e v1 ⟨rfl,hv1⟩
     rw [hv1]
     clear hv1 MC
     go_wp2
     go_roundw
     case measure=>simp [intOf];omega
     case rel=>exact ⟨j+1,mx,by omega,by simp,rfl,HNJ.out.symm,HU.out⟩
    ·have hjI:¬ ((j:Int)<(m:Int)):=by omega
     have HXE:Hid (x=maxD D ins):=by
      have:=HX'.out
      rwa [List.take_of_length_le (by have:=HM.out;omega)] at this
     have hxb:0≤x∧x≤(N.tabs.length:Int):=by rw [HXE.out];exact HDB.out ins
     rw [←HXE.out] at HNX
     obtain rfl:wr=U:=HU.out
     clear HX' HU
     have e3:IntKind.i64.wrap ((f:Int)+(k:Int))=(f:Int)+(k:Int):=wrapI _ (by omega) (by omega)
     have e4:IntKind.i64.wrap (x+1)=x+1:=wrapI _ (by omega) (by omega)
     have e5:((f:Int)+(k:Int)).toNat=f+k:=by omega
     have hfk:(f:Int)+(k:Int)<(nn:Int):=by rw [HNN.out];omega
     have hcl:=HO.out.cellAt (f+k) (by rw [HNN.out];omega)
     have hfz:=HO.out.frozenAt (f+k)
     have hold:∃ old,wr.cell? ⟨g,f+k,none⟩=some old:=by
      rw [hcl]
      have hL:f+k<((dRow N f k).map iV).length:=by rw [List.length_map,dRow_len _ _ _ hk];omega
      exact ⟨_,List.getElem?_eq_getElem hL⟩
     obtain ⟨old,hold⟩:=hold
     have HST:=hidden (HO.out.stored (f+k) (.int .i64 (x+1)))
     have HBN:Hid (Below W.heap.size W (wr.setCell ⟨g,f+k,none⟩ (.int .i64 (x+1)))):=HBr.out.trans (below_grown HST.out.2 HBr.out.size (fun y hy=>by cases hy;exact hgW))
     have HON:Hid ((wr.setCell ⟨g,f+k,none⟩ (.int .i64 (x+1))).ownsRow W.heap.size 3 1 (.slice (some ⟨g,0,none⟩) nn nn) nn ((dRow N f (k+1)).map iV)):=by
      rw [←HNX.out]
      exact HST.out.1
     clear hcl HO HDC
     go_wp2
     go_roundw
     case measure=>simp [intOf];omega
     case rel=>exact ⟨k+1,by omega,by simp,HON.out,HBN.out⟩
  ·have hge:¬ ((k:Int)<(N.tabs.length:Int)):=by omega
   obtain ⟨D,HDD⟩:∃ D,Hid (D=dsN N.first.toNat N.tabs):=⟨_,rfl⟩
   have hfn:N.first.toNat=f:=by have:=HFF.out;omega
   have HDC0:Hid (∀ s:Int,0≤s→s<(nn:Int)→wr.cell? ⟨g,s.toNat,none⟩=some (.int .i64 (D.getD s.toNat 0))):=fun s h0 h1=>by
    have:=HO.out.cellAt s.toNat (by omega)
    rw [this,List.getElem?_map,dRow_at hk h0 (by have:=HNN.out;omega),HDD.out,List.take_of_length_le (by omega),hfn]
    rfl
   have HNV0:Hid (NtAt B wr S N):=HAW.out.to (HBr.out.mono hBW)
   have HXV0:Hid (BoxAt wr pg S N):=HX.out.to HX.out.lt HBr.out
   have HBV0:Hid (Below w.heap.size w wr):=HB1.out.trans (HBr.out.mono hwW)
   obtain ⟨V,hV⟩:∃ V,V=wr:=⟨_,rfl⟩
   rw [←hV] at HDC0 HNV0 HXV0 HBV0 q2
   rw [←hV]
   have HDC:=HDC0
   have HNV:=HNV0
   have HXV:=HXV0
   have HBV:=HBV0
   clear hV HO HBr HDC0 HNV0 HXV0 HBV0 hfn
   have q4:=HXV.out.c4
   go_wp2_with fail
   clear q2 q4
   go_loopw [8,9] (fun m' i' w'=>∃ (j:Nat) (m:Int),j≤N.outs.length∧i' = .int .i64 j∧m' = .int .i64 m∧Hid (m=maxD D (([]:List Int)++N.outs.take j))∧Hid (w'=V)) (fun _ i' _=>N.outs.length - (intOf i').toNat)
   case atStart=>exact ⟨0,_,Nat.zero_le _,rfl,rfl,rfl,rfl⟩
   case round =>
    obtain ⟨j,m,hj,rfl,rfl,HMX,HV⟩:=hrel
    have q1:wr.cell? ⟨pg,4,none⟩=some (.slice S.a4 N.outs.length S.c4):=by rw [HV.out];exact HXV.out.c4
    by_cases hlt:j<N.outs.length
    ·have hltI:(j:Int)<(N.outs.length:Int):=by omega
     obtain ⟨s,hs⟩:=getElem_lt hlt
     obtain ⟨b,o,ea,hlb,hc⟩:=HNV.out.o.int hs
     have c0:wr.cell? ⟨b,o+j,none⟩=some (.int .i64 s):=by rw [HV.out];exact hc
     have hsb:=HIN.out.oi s (List.mem_of_getElem? hs)
     rw [HSG.out] at hsb
     have HNX:Hid (maxD D (([]:List Int)++N.outs.take (j+1))=mostI m (D.getD s.toNat 0)):=by
      show _=_
      rw [take_next _ j _ hs,←List.append_assoc,maxD_snoc,HMX.out]
     have cd:wr.cell? ⟨g,s.toNat,none⟩=some (.int .i64 (D.getD s.toNat 0)):=by rw [HV.out];exact HDC.out s hsb.1 hsb.2
     have hs0:=hsb.1
     have hs1:s<(nn:Int):=hsb.2
     have e2:IntKind.i64.wrap ((j:Int)+1)=(j:Int)+1:=wrapI _ (by omega) (by omega)
     have MC:=hidden (most_doc wr m (D.getD s.toNat 0))
     rw [ea] at q1
     generalize D.getD s.toNat 0=ds at *
     generalize mostI m ds=mx at *
     clear hs hc ea hlb hsb
     go_wp2_with fail
     go_at_call 25
     refine MC.out.mono ?_
     rintro e v1 ⟨rfl,hv1⟩
     rw [hv1]
     clear hv1 MC
     go_wp2
     go_roundw
     case measure=>simp [intOf];omega
     case rel=>exact ⟨j+1,mx,by omega,by simp,rfl,HNX.out.symm,HV.out⟩
    ·have hge:¬ ((j:Int)<(N.outs.length:Int)):=by omega
     have HM9:Hid (m=maxD D (([]:List Int)++N.outs)):=by
      have:=HMX.out
      rwa [List.take_of_length_le (by omega)] at this
     clear HMX
     rw [List.nil_append] at HM9
     obtain rfl:wr=V:=HV.out
     clear HV
     obtain ⟨V,hVV⟩:∃ V,V=wr:=⟨_,rfl⟩
     rw [←hVV] at HDC HNV HXV HBV q1
     rw [←hVV]
     clear hVV
     have q3:V.cell? ⟨pg,3,none⟩=some (.slice S.a3 N.next.length S.c3):=HXV.out.c3
     go_wp2_with fail
     clear q1 q3
     go_loopw [8,10] (fun m' i' w'=>∃ (j:Nat) (m:Int),j≤N.next.length∧i' = .int .i64 j∧m' = .int .i64 m∧Hid (m=maxD D ((N.outs)++N.next.take j))∧Hid (w'=V)) (fun _ i' _=>N.next.length - (intOf i').toNat)
     case atStart=>exact ⟨0,_,Nat.zero_le _,rfl,rfl,by show _=_;rw [HM9.out];simp,rfl⟩
     case round =>
      obtain ⟨j,m,hj,rfl,rfl,HMX,HV⟩:=hrel
      have q1:wr.cell? ⟨pg,3,none⟩=some (.slice S.a3 N.next.length S.c3):=by rw [HV.out];exact HXV.out.c3
      by_cases hlt:j<N.next.length
      ·have hltI:(j:Int)<(N.next.length:Int):=by omega
       obtain ⟨s,hs⟩:=getElem_lt hlt
       obtain ⟨b,o,ea,hlb,hc⟩:=HNV.out.n.int hs
       have c0:wr.cell? ⟨b,o+j,none⟩=some (.int .i64 s):=by rw [HV.out];exact hc
       have hsb:=HIN.out.ni s (List.mem_of_getElem? hs)
       rw [HSG.out] at hsb
       have HNX:Hid (maxD D ((N.outs)++N.next.take (j+1))=mostI m (D.getD s.toNat 0)):=by
        show _=_
        rw [take_next _ j _ hs,←List.append_assoc,maxD_snoc,HMX.out]
       have cd:wr.cell? ⟨g,s.toNat,none⟩=some (.int .i64 (D.getD s.toNat 0)):=by rw [HV.out];exact HDC.out s hsb.1 hsb.2
       have hs0:=hsb.1
       have hs1:s<(nn:Int):=hsb.2
       have e2:IntKind.i64.wrap ((j:Int)+1)=(j:Int)+1:=wrapI _ (by omega) (by omega)
       have MC:=hidden (most_doc wr m (D.getD s.toNat 0))
       rw [ea] at q1
       generalize D.getD s.toNat 0=ds at *
       generalize mostI m ds=mx at *
       clear hs hc ea hlb hsb
       go_wp2_with fail
       go_at_call 25
       refine MC.out.mono ?_
       rintro e v1 ⟨rfl,hv1⟩
       rw [hv1]
       clear hv1 MC
       go_wp2
       go_roundw
       case measure=>simp [intOf];omega
       case rel=>exact ⟨j+1,mx,by omega,by simp,rfl,HNX.out.symm,HV.out⟩
      ·have hge:¬ ((j:Int)<(N.next.length:Int)):=by omega
       have HM10:Hid (m=maxD D ((N.outs)++N.next)):=by
        have:=HMX.out
        rwa [List.take_of_length_le (by omega)] at this
       clear HMX
       have HF:Hid (m=depN N):=by
        show _=_
        rw [HM10.out,HDD.out]
        exact rfl
       clear HM10
       go_wp2
       go_ret
       exact ⟨ret_int HF.out,by rw [HV.out];exact HBV.out⟩
end Go.Proofs.Ytlaljeobdddegaa.L

namespace Go.Proofs.Ytlaljeobdddegaa.L
open Go.RowKit
def tabsN (v:List Bool) (l:List TbD):List Bool:=l.foldl (fun v d=>v++[tabV d v]) v
def cycT (N:NtD) (row st:List Bool):List Bool:=tabsN ([false,true]++inRow N.ins.toNat row++st) N.tabs
def outT (N:NtD) (v:List Bool):List Bool:=N.outs.map (sV v)
def nextT (N:NtD) (v:List Bool):List Bool:=N.next.map (sV v)
def stT (N:NtD) (st:List Bool) (tr:List (List Bool)):List Bool:=tr.foldl (fun st r=>nextT N (cycT N r st)) st
def runT (N:NtD):List (List Bool)→List Bool→List (List Bool)
 | [],_=>[]
 | r :: t,st=>outT N (cycT N r st) :: runT N t (nextT N (cycT N r st))
theorem runT_snoc (N:NtD) (l:List (List Bool)) (r:List Bool) (st:List Bool):runT N (l++[r]) st=runT N l st++[outT N (cycT N r (stT N st l))]:=by
 induction l generalizing st with
 | nil=>rfl
 | cons a t ih=>simp only [List.cons_append,runT,ih];rfl
theorem stT_snoc (N:NtD) (l:List (List Bool)) (r:List Bool) (st:List Bool):stT N st (l++[r])=nextT N (cycT N r (stT N st l)):=by
 unfold stT;rw [List.foldl_append];rfl
theorem tabs_snoc (v:List Bool) (l:List TbD) (d:TbD):tabsN v (l++[d])=tabsN v l++[tabV d (tabsN v l)]:=by
 unfold tabsN;rw [List.foldl_append];rfl
theorem tabs_length (v:List Bool) (l:List TbD):(tabsN v l).length=v.length+l.length:=by
 induction l generalizing v with
 | nil=>rfl
 | cons a t ih=>unfold tabsN at *;rw [List.foldl_cons,ih];simp;omega
theorem stT_length (N:NtD) (tr:List (List Bool)) (st:List Bool) (h:st.length=N.init.length) (hn:N.next.length=N.init.length):(stT N st tr).length=N.init.length:=by
 induction tr generalizing st with
 | nil=>exact h
 | cons a t ih=>exact ih (nextT N (cycT N a st)) (by unfold nextT;rw [List.length_map];exact hn)
theorem Far.symm {a b:Value} (h:Far a b):Far b a:=fun x hx e=>h x e hx
theorem wpList_append_row {P:Program} (w:World) {ops:Array Oper} {rest:List Oper} {o:Oper} {a:Act} {Q:Exit→Act→World→Prop} (hgd:o.guard=none) (s x:Operand) (t:TypeId)
  (ho:o.op = .call { callee:=.builtin .append,args:=#[s,x],argTypes:=#[t,t] })
  (base:Nat) (e:TypeId) (i:TypeInfo) (z:Value) (bytes:Nat) (ht:P.underlying t=some (.slice e)) (hi:P.info? e=some i) (hz:i.zero=some z)
  (hsize:i.size=1) (hby:i.bytes=bytes) (hzs:z.cells.size=1)
  (v:Value) (n:Nat) (xs:List Value) (hs:a.eval s=v) (hown:w.ownsRow base e 1 v n xs)
  (xa:Option Addr) (xc:Nat) (l:List Bool) (hx:a.eval x = .slice xa l.length xc) (B:Nat) (R:RowAt B w xa 1 (l.map boolC)) (hn:xa=none→xc=0∧l=[])
  (h63:n+l.length≤maxLen) (hbytes:(n+l.length)*bytes≤140737488355328) (hbase:base≤w.heap.size)
  (h:∀ v' w',w'.ownsRow base e 1 v' (n+l.length) (xs++l.map bV)→w.grownBy w' v.ownBlock→wpList P ops Q rest (a.put o.dst v') w') :
  wpList P ops Q (o :: rest) a w:=by
 cases xa with
 | none =>
  obtain ⟨rfl,rfl⟩:=hn rfl
  exact wpList_append_any w hgd s x t ho base e i z bytes ht hi hz hsize hby hzs v n xs hs hown (.slice none 0 0) [] hx (.inl ⟨rfl,rfl⟩) h63 hbytes hbase h
 | some ad =>
  refine wpList_append_own_at w hgd s x t ho base e i z 1 bytes ht hi hz hsize hby hzs (by decide) v n xs hs hown ad l.length xc (l.map bV) hx (by simp) ?_ ?_ h63 hbytes hbase ?_
  ·intro j u hu
   rw [List.getElem?_map] at hu
   cases hl:l[j]? with
   | none=>rw [hl] at hu;cases hu
   | some y =>
    rw [hl] at hu
    have e:Value.bool y=u:=by simpa [bV] using hu
    subst e
    obtain ⟨b,o,ea,-,hc⟩:=rowB R hl
    cases ea
    have e2:(⟨b,o,none⟩:Addr).add j=⟨b,o+j,none⟩:=by unfold Addr.add;split <;> simp_all
    rw [e2];exact hc
  ·intro u hu
   obtain ⟨y,_,rfl⟩:=List.mem_map.1 hu
   rfl
  ·intro v' w' h1 h2 _ _
   exact h v' w' h1 h2
end Go.Proofs.Ytlaljeobdddegaa.L
