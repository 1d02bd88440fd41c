import Derived.Test.YtlaljeobdddegaaJ52
namespace Go.Proofs.Ytlaljeobdddegaa
open Go.RowKit Mp
set_option maxRecDepth 100000 in
set_option maxHeartbeats 8000000 in
theorem least_any (B:Nat) (w:World) (S:GrS) (G:GrD) (ni n:Nat) (hF:FineG G ni n) (h:GrAt B w S G) (hB:B≤w.heap.size) (h150:G.ands.length≤150) :
  Calls Try.prog 15 #[.agg (S.cells G)] w fun e w'=>∃ (cuts:Nat→List (List Nat)) (label:Nat→Nat),e = .returned (.int .i64 (lstV (firstN G) label (endL G):Nat))∧Hid (CutsD (grG hF) n cuts label)∧Hid (∀ v,v<firstN G→label v=0)∧Hid (Bl w w'):=by
 have hN6:n≤60000:=hF.le
 have hall:=hF.all
 have hins:=hF.ins
 have hfi:=hF.first
 have hll:=hF.ll
 have hlo:=hF.lo
 obtain ⟨gr,Egr⟩:=exh (grG hF)
 rw [←Egr.out]
 have HGF:Hid (gr.first=firstN G):=by rw [Egr.out];rfl
 have HGA:Hid (∀ (k:Nat) (d:AndD),G.ands[k]?=some d→gr.a (firstN G+k)=(d.x / 2).toNat∧gr.b (firstN G+k)=(d.y / 2).toNat):=fun k d hd=>by
  rw [Egr.out]
  exact grA_at hd
 have HNA:Hid (∀ k,k<G.ands.length→(firstN G+k ∈ namW (firstN G) G.ands∧gr.a (firstN G+k) ∈ namW (firstN G) G.ands∧gr.b (firstN G+k) ∈ namW (firstN G) G.ands)):=fun k hk=>by
  rw [Egr.out]
  exact namW_mem hk
 have hWL:(namW (firstN G) G.ands).length≤450:=by rw [namW_len];omega
 obtain ⟨W,EW⟩:=exh (namW (firstN G) G.ands)
 rw [←EW.out] at HNA hWL
 have HWL:=hidden hWL
 have HHF:=hidden hF
 have HAT:=hidden h
 unfold GrS.cells
 obtain ⟨F,EF⟩:=exh (firstN G)
 rw [←EF.out] at HGF HGA HNA hall hfi
 rw [←EF.out]
 obtain ⟨na,Ena⟩:=exh G.ands.length
 obtain ⟨nl,Enl⟩:=exh G.lats.length
 obtain ⟨no,Eno⟩:=exh G.outs.length
 rw [←Ena.out] at h150 hall HNA
 rw [←Enl.out] at hll hfi
 rw [←Eno.out] at hlo
 obtain ⟨sa1,Esa1⟩:=exh S.a1
 obtain ⟨sa2,Esa2⟩:=exh S.a2
 obtain ⟨sa3,Esa3⟩:=exh S.a3
 rw [←Ena.out,←Enl.out,←Eno.out,hins,←Esa1.out,←Esa2.out,←Esa3.out]
 have hF1:1≤F:=by omega
 have HFI:=hidden hfi
 have hni6:ni≤60000:=by omega
 have eA:IntKind.i64.wrap (1+(ni:Int))=1+(ni:Int):=wrapI _ (by omega) (by omega)
 have eB:IntKind.i64.wrap (1+(ni:Int)+(nl:Int))=(F:Int):=by rw [wrapI _ (by omega) (by omega)];omega
 clear Egr h hF hins hfi hWL
 go_enter Try.func15,Try.ntmps15
 go_upto_region 1 with fail
 obtain ⟨gb,Egb⟩:=exh w.heap.size
 obtain ⟨w0,Ew0⟩:=exh (w.alloc (.cells #[.int .i64 (ni:Int),.slice sa1 nl S.c1,.slice sa2 na S.c2,.slice sa3 no S.c3] 26))
 have HB0:Hid (Bl w w0):=by rw [Ew0.out];exact (Below.refl _ _).alloc (Nat.le_refl _) _
 have HK0:Hid (Blk w0 gb 26 #[.int .i64 (ni:Int),.slice sa1 nl S.c1,.slice sa2 na S.c2,.slice sa3 no S.c3]):=by rw [Ew0.out,Egb.out];exact Blk.new _ _ _
 rw [←Egb.out,←Ew0.out]
 obtain ⟨C0,EC0⟩:=exh w0.heap.size
 have hwC:w.heap.size<C0:=by rw [EC0.out,←Egb.out];exact HK0.out.lt
 have HGB:Hid (∀ x:World,Below C0 w0 x→(x.cell? ⟨gb,0,none⟩=some (.int .i64 (ni:Int))∧x.cell? ⟨gb,1,none⟩=some (.slice sa1 nl S.c1)∧x.cell? ⟨gb,2,none⟩=some (.slice sa2 na S.c2)∧x.cell? ⟨gb,3,none⟩=some (.slice sa3 no S.c3))):=fun x hx=>by
  rw [EC0.out] at hx
  have hk:=HK0.out.below hx
  exact ⟨hk.cell (i:=0) rfl,hk.cell (i:=1) rfl,hk.cell (i:=2) rfl,hk.cell (i:=3) rfl⟩
 have HUP:Hid (∀ x:World,Below C0 w0 x→Bl w x):=fun x hx=>HB0.out.trans (hx.mono (Nat.le_of_lt hwC))
 have HGR:Hid (∀ x:World,Below C0 w0 x→GrAt B x S G):=fun x hx=>HAT.out.to ((HUP.out x hx).mono hB)
 have HRF:Hid (Below C0 w0 w0):=Below.refl _ _
 clear Ew0 Egb
 obtain ⟨w2,Ew2⟩:=exh ((w0.alloc (.cells #[.slice none 0 0] 24)).alloc (.cells #[.slice (some ⟨w0.heap.size,0,none⟩) 1 1] 60))
 have HB2:Hid (Bl w0 w2):=by rw [Ew2.out];exact ((Below.refl _ _).alloc (Nat.le_refl _) _).alloc (by simp) _
 have HK2:Hid (Blk w2 C0 24 #[.slice none 0 0]∧w2.cell? ⟨C0+1,0,none⟩=some (.slice (some ⟨C0,0,none⟩) 1 1)∧w2.heap.size=C0+2):=by
  rw [Ew2.out,EC0.out]
  refine ⟨(Blk.new w0 _ _).below ((Below.refl _ _).alloc (Nat.le_refl _) _),?_,by simp⟩
  have:=(Blk.new (w0.alloc (.cells #[.slice none 0 0] 24)) 60 #[.slice (some ⟨w0.heap.size,0,none⟩) 1 1]).cell (i:=0) rfl
  rw [show (w0.alloc (.cells #[.slice none 0 0] 24)).heap.size=w0.heap.size+1 by simp] at this
  exact this
 have HL0:Hid (LsAt C0 w0 (.slice none 0 0) (.slice none 0 0) [] []):=⟨own_nil _ _ _ _,own_nil _ _ _ _,FaV.nil _,fun q hq=>absurd hq (by simp),by rw [EC0.out];exact Nat.le_refl _⟩
 have hsz2:C0≤w2.heap.size:=by have:=HK2.out.2.2;omega
 have tok:True:=trivial
 go_upto_region 4 with (have _t:=tok;at_builtin;(rw [←Ew2.out,←EC0.out];refine app_q _ rfl (.tmp 22) (.tmp 24) rfl C0 (.slice none 0 0) 0 [] rfl (own_nil _ _ _ _) ⟨C0+1,0,none⟩ (some ⟨C0,0,none⟩) 1 1 rfl HK2.out.2.1 (by omega) hsz2 ?_;intro g3 c3 w3 hown hgrow hpl;have HO3:=hidden hown;have HG3:=hidden hgrow;have HP3:=hidden hpl;clear tok hown hgrow hpl))
 have HB3:Hid (Bl w0 w3):=HB2.out.trans (grow_low HG3.out HB2.out.size (fun k hk=>by cases hk))
 have HC4:Hid ((w3.alloc (.cells #[.int .i64 0] 3)).cell? ⟨w3.heap.size,0,none⟩=some (.int .i64 0)):=(Blk.new w3 _ _).cell (i:=0) rfl
 have hsz3:C0≤w3.heap.size+1:=by have:=HB3.out.size;rw [←EC0.out] at this;omega
 have tok:True:=trivial
 go_upto_region 5 with (have _t:=tok;at_builtin;(refine app_int _ rfl (.tmp 26) (.tmp 27) rfl C0 (.slice none 0 0) 0 [] rfl (own_nil _ _ _ _) ⟨w3.heap.size,0,none⟩ 0 rfl HC4.out (by omega) (by simpa using hsz3) ?_;intro g4 c4 w4 hown hgrow hpl;have HO4:=hidden hown;have HG4:=hidden hgrow;have HP4:=hidden hpl;clear tok hown hgrow hpl))
 have HL4:Hid (LsAt C0 w4 (.slice (some ⟨g3,0,none⟩) (0+1) c3) (.slice (some ⟨g4,0,none⟩) (0+1) c4) [⟨some ⟨C0,0,none⟩,1,[⟨none,0,[]⟩]⟩] [0]∧Below C0 w0 w4):=by
  have:=HL0.out.both (q:=⟨some ⟨C0,0,none⟩,1,[⟨none,0,[]⟩]⟩) (x:=0) HB2.out HG3.out HO3.out HP3.out ((Below.refl w3.heap.size w3).alloc (Nat.le_refl _) _) HG4.out HO4.out HP4.out (QX.zero HK2.out.1 (by rw [EC0.out];omega))
  exact this
 obtain ⟨q0,q1,-,-⟩:=HGB.out w4 HL4.out.2
 clear HL0 HB2 HK2 HO3 HG3 HP3 HO4 HG4 HP4 HB3 HC4 Ew2 hsz2 hsz3
 go_wp2_with fail
 clear q0 q1
 go_loopw [3,4,6] (fun c' l' v' w'=>∃ (v:Nat) (qs:List Qd),1≤v∧v≤F∧v' = .int .i64 (v:Int)∧qs.length=v∧Hid (LsAt C0 w' c' l' qs (List.replicate v 0))∧Hid (∀ u,u<v→(qs.map Qd.ls).getD u []=cutS u)∧Hid (Below C0 w0 w')) (fun _ _ v' _=>F - (intOf v').toNat)
 case atStart=>exact ⟨1,_,Nat.le_refl _,hF1,rfl,rfl,HL4.out.1,(fun u hu=>by (have e:u=0:=by omega);subst e;rfl),HL4.out.2⟩
 case round =>
  clear HL4
  obtain ⟨v,qs,hv1,hvF,rfl,hql,HLS,HQS,HB⟩:=hrel
  by_cases hlt:v<F
  ·have hltI:(v:Int)<(F:Int):=by omega
   have e6:IntKind.i64.wrap ((v:Int)+1)=(v:Int)+1:=wrapI _ (by omega) (by omega)
   obtain ⟨H,EH⟩:=exh wr.heap.size
   obtain ⟨w2,Ew2⟩:=exh (((wr.alloc (.cells #[.int .i64 (v:Int)] 3)).alloc (.cells #[.slice (some ⟨wr.heap.size,0,none⟩) 1 1] 24)).alloc (.cells #[.slice (some ⟨wr.heap.size+1,0,none⟩) 1 1] 60))
   have HB2:Hid (Bl wr w2):=by rw [Ew2.out];exact (((Below.refl _ _).alloc (Nat.le_refl _) _).alloc (by simp) _).alloc (by simp;omega) _
   have HK2:Hid (Blk w2 H 3 #[.int .i64 (v:Int)]∧Blk w2 (H+1) 24 #[.slice (some ⟨H,0,none⟩) 1 1]∧w2.cell? ⟨H+2,0,none⟩=some (.slice (some ⟨H+1,0,none⟩) 1 1)∧w2.heap.size=H+3):=by
    rw [Ew2.out,EH.out]
    have z1:(wr.alloc (.cells #[.int .i64 (v:Int)] 3)).heap.size=wr.heap.size+1:=by simp
    have z2:((wr.alloc (.cells #[.int .i64 (v:Int)] 3)).alloc (.cells #[.slice (some ⟨wr.heap.size,0,none⟩) 1 1] 24)).heap.size=wr.heap.size+2:=by simp
    have k1:=Blk.new wr 3 #[.int .i64 (v:Int)]
    have k2:=Blk.new (wr.alloc (.cells #[.int .i64 (v:Int)] 3)) 24 #[.slice (some ⟨wr.heap.size,0,none⟩) 1 1]
    have k3:=Blk.new ((wr.alloc (.cells #[.int .i64 (v:Int)] 3)).alloc (.cells #[.slice (some ⟨wr.heap.size,0,none⟩) 1 1] 24)) 60 #[.slice (some ⟨wr.heap.size+1,0,none⟩) 1 1]
    rw [z1] at k2
    rw [z2] at k3
    refine ⟨(k1.below ((Below.refl _ _).alloc (Nat.le_refl _) _)).below ((Below.refl _ _).alloc (Nat.le_refl _) _),k2.below ((Below.refl _ _).alloc (Nat.le_refl _) _),k3.cell (i:=0) rfl,by simp⟩
   have hszC:C0≤w2.heap.size:=Nat.le_trans HLS.out.le HB2.out.size
   have HOC:=hidden (own_below HLS.out.oc HB2.out)
   rw [hql] at HOC
   have tok:True:=trivial
   go_upto_region 10 with (have _t:=tok;at_builtin;(rw [←Ew2.out,←EH.out];refine app_q _ rfl (.tmp 41) (.tmp 45) rfl C0 u3 v _ rfl HOC.out ⟨H+2,0,none⟩ (some ⟨H+1,0,none⟩) 1 1 rfl HK2.out.2.2.1 (by omega) hszC ?_;intro g3 c3 w3 hown hgrow hpl;have HO3:=hidden hown;have HG3:=hidden hgrow;have HP3:=hidden hpl;clear tok hown hgrow hpl))
   have HFA:Hid (u4.ownBlock=none∨u4.ownBlock≠u3.ownBlock):=by
    cases e:u4.ownBlock with
    | none=>exact Or.inl rfl
    | some b=>exact Or.inr (fun e2=>HLS.out.far b e2.symm e)
   have HOL:=hidden (own_kept (own_below HLS.out.ol HB2.out) HG3.out HFA.out)
   rw [List.length_replicate] at HOL
   have HC4:Hid ((w3.alloc (.cells #[.int .i64 0] 3)).cell? ⟨w3.heap.size,0,none⟩=some (.int .i64 0)):=(Blk.new w3 _ _).cell (i:=0) rfl
   have hsz3:C0≤w3.heap.size+1:=by have:=HG3.out.size;omega
   have tok:True:=trivial
   go_upto_region 8 with (have _t:=tok;at_builtin;(refine app_int _ rfl (.tmp 47) (.tmp 48) rfl C0 u4 v _ rfl (HOL.out.alloc _) ⟨w3.heap.size,0,none⟩ 0 rfl HC4.out (by omega) (by simpa using hsz3) ?_;intro g4 c4 w4 hown hgrow hpl;have HO4:=hidden hown;have HG4:=hidden hgrow;have HP4:=hidden hpl;clear tok hown hgrow hpl))
   have HL6:Hid (LsAt C0 w4 (.slice (some ⟨g3,0,none⟩) (v+1) c3) (.slice (some ⟨g4,0,none⟩) (v+1) c4) (qs++[⟨some ⟨H+1,0,none⟩,1,[⟨some ⟨H,0,none⟩,1,[v]⟩]⟩]) (List.replicate (v+1) 0)∧Below C0 wr w4):=by
    have:=HLS.out.both (q:=⟨some ⟨H+1,0,none⟩,1,[⟨some ⟨H,0,none⟩,1,[v]⟩]⟩) (x:=0) HB2.out HG3.out (by rw [hql];exact HO3.out) HP3.out ((Below.refl w3.heap.size w3).alloc (Nat.le_refl _) _) HG4.out (by rw [List.length_replicate];exact HO4.out) HP4.out (QX.one HK2.out.1 HK2.out.2.1 (by rw [EH.out];omega) (by rw [EH.out];omega))
    rw [List.replicate_succ' (n:=v)]
    exact this
   have HQ6:Hid (∀ u,u<v+1→((qs++[(⟨some ⟨H+1,0,none⟩,1,[⟨some ⟨H,0,none⟩,1,[v]⟩]⟩:Qd)]).map Qd.ls).getD u []=cutS u):=fun u hu=>by
    rw [List.map_append]
    by_cases e:u<v
    ·rw [show List.map Qd.ls [(⟨some ⟨H+1,0,none⟩,1,[⟨some ⟨H,0,none⟩,1,[v]⟩]⟩:Qd)]=[[[v]]] from rfl,getD_old (by rw [List.length_map,hql];exact e)]
     exact HQS.out u e
    ·obtain rfl:u=v:=by omega
     rw [show List.map Qd.ls [(⟨some ⟨H+1,0,none⟩,1,[⟨some ⟨H,0,none⟩,1,[u]⟩]⟩:Qd)]=[[[u]]] from rfl,getD_new (by rw [List.length_map,hql])]
     unfold cutS;rw [if_neg (by omega)]
   have HB6:Hid (Below C0 w0 w4):=HB.out.trans HL6.out.2
   clear HB2 HK2 HOC HO3 HG3 HP3 HFA HOL HC4 HO4 HG4 HP4 HLS HQS HB Ew2
   go_wp2
   go_roundw
   case measure=>simp [intOf];omega
   case rel=>exact ⟨v+1,_,by omega,by omega,by simp,by rw [List.length_append,hql];rfl,HL6.out.1,HQ6.out,HB6.out⟩
  ·have hge:¬ (v:Int)<(F:Int):=by omega
   obtain rfl:v=F:=by omega
   have HCD:Hid (CutsD gr (v+0) (fun u=>(qs.map Qd.ls).getD u []) (fun u=>(List.replicate v 0).getD u 0)):=by
    have:=cutsD_start (G:=gr) (qs:=qs) (ls:=List.replicate v 0) (by rw [HGF.out];exact HQS.out)
    rw [HGF.out] at this
    exact this
   have hrep:∀ u,(List.replicate v 0).getD u 0=0:=fun u=>by
    rw [List.getD_eq_getElem?_getD,List.getElem?_replicate]
    split <;> rfl
   have HREP:=hidden hrep
   have HQF:Hid (∀ q,q ∈ qs→q.hs.length≤41371966802):=fun q hq=>by
    obtain ⟨u,hu⟩:=List.getElem?_of_mem hq
    have hul:=(List.getElem?_eq_some_iff.1 hu).1
    have h1:=HQS.out u (by omega)
    rw [List.getD_eq_getElem?_getD,List.getElem?_map,hu] at h1
    have h2:q.hs.map Hd.l=cutS u:=h1
    have h3:=congrArg List.length h2
    rw [List.length_map] at h3
    have h4:(cutS u).length=1:=by unfold cutS;split <;> rfl
    omega
   clear hrep HQS
   go_wp2_with fail
   go_loopw [3,4,7,8,9,10,11,12,13,14,15,16,17,18] (fun c' l' i' _ _ _ _ _ _ _ _ _ _ _ w'=>∃ (k:Nat) (qs:List Qd) (ls:List Nat),k≤na∧i' = .int .i64 (k:Int)∧qs.length=v+k∧ls.length=v+k∧Hid (LsAt C0 w' c' l' qs ls)∧Hid (CutsD gr (v+k) (fun u=>(qs.map Qd.ls).getD u []) (fun u=>ls.getD u 0))∧Hid (∀ u,ls.getD u 0≤k)∧Hid (∀ u,u<v→ls.getD u 0=0)∧Hid (∀ u,v≤u→u<v+k→∀ c,c ∈ (qs.map Qd.ls).getD u []→∀ x,x ∈ c→x ∈ W)∧Hid (∀ q,q ∈ qs→q.hs.length≤41371966802)∧Hid (Below C0 w0 w')) (fun _ _ i' _ _ _ _ _ _ _ _ _ _ _ _=>na - (intOf i').toNat)
   case atStart=>exact ⟨0,qs,List.replicate v 0,Nat.zero_le _,rfl,hql,List.length_replicate,HLS.out,HCD.out,(fun u=>by rw [HREP.out];exact Nat.le_refl _),(fun u _=>HREP.out u),(fun u h1 h2=>by omega),HQF.out,HB.out⟩
   case round =>
    clear HLS HCD HREP HQF HB hql
    obtain ⟨k,qs,ls,hk,rfl,hql,hll2,HLS,HCD,HLK,HLZ,HWS,HQF,HB⟩:=hrel
    obtain ⟨-,g1,g2,g3⟩:=HGB.out wr HB.out
    by_cases hlt:k<na
    ·have hltI:(k:Int)<(na:Int):=by omega
     obtain ⟨d,hd⟩:=getElem_lt (show k<G.ands.length by rw [←Ena.out];exact hlt)
     obtain ⟨hda,hdb⟩:=HHF.out.ands k d hd
     rw [←EF.out] at hda hdb
     obtain ⟨b2,o2,ea2,-,ce2⟩:=(HGR.out wr HB.out).a.el hd
     have cdx:wr.cell? ⟨b2,o2+k*2,none⟩=some (.int .i64 d.x):=ce2 0 _ rfl
     have cdy:wr.cell? ⟨b2,o2+k*2+1,none⟩=some (.int .i64 d.y):=ce2 1 _ rfl
     obtain ⟨pa,Epa⟩:=exh (d.x / 2).toNat
     obtain ⟨pb,Epb⟩:=exh (d.y / 2).toNat
     have hqa:d.x.tdiv 2=(pa:Int):=by rw [Int.tdiv_eq_ediv_of_nonneg hda.1,Epa.out];omega
     have hqb:d.y.tdiv 2=(pb:Int):=by rw [Int.tdiv_eq_ediv_of_nonneg hdb.1,Epb.out];omega
     obtain ⟨N,EN⟩:=exh (v+k)
     have hN6':N≤60000:=by have:=EN.out;omega
     have hpaN:pa<N:=by have:=Epa.out;have:=EN.out;omega
     have hpbN:pb<N:=by have:=Epb.out;have:=EN.out;omega
     have hpaI:(pa:Int)<(N:Int):=by omega
     have hpbI:(pb:Int)<(N:Int):=by omega
     have HGAB:Hid (gr.a N=pa∧gr.b N=pb):=by rw [EN.out,Epa.out,Epb.out];exact HGA.out k d hd
     have HNK:Hid (N ∈ W∧pa ∈ W∧pb ∈ W):=by
      have:=HNA.out k hlt
      rw [(HGA.out k d hd).1,(HGA.out k d hd).2,←EN.out,←Epa.out,←Epb.out] at this
      exact this
     rw [←EN.out] at hql hll2 HCD HWS
     obtain ⟨qa,hqa2⟩:=getElem_lt (show pa<qs.length by rw [hql];exact hpaN)
     obtain ⟨qb,hqb2⟩:=getElem_lt (show pb<qs.length by rw [hql];exact hpbN)
     obtain ⟨ca,cc,ecv,-,hcell⟩:=own_g HLS.out.oc
     obtain ⟨bc,ebc,cqa⟩:=hcell pa qa hqa2
     obtain ⟨bc',ebc',cqb⟩:=hcell pb qb hqb2
     rw [ebc] at ebc'
     simp only [Option.some.injEq,Addr.mk.injEq,and_true] at ebc'
     obtain rfl:=ebc'
     subst ebc
     rw [hql] at ecv
     unfold Qd.v at cqa cqb
     obtain ⟨na1,Ena1⟩:=exh qa.hs.length
     obtain ⟨nb1,Enb1⟩:=exh qb.hs.length
     obtain ⟨xa,Exa⟩:=exh qa.a
     obtain ⟨xb,Exb⟩:=exh qb.a
     rw [←Ena1.out,←Exa.out] at cqa
     rw [←Enb1.out,←Exb.out] at cqb
     have hna1:na1≤41371966802:=by rw [Ena1.out];exact HQF.out qa (List.mem_of_getElem? hqa2)
     have hnb1:nb1≤41371966802:=by rw [Enb1.out];exact HQF.out qb (List.mem_of_getElem? hqb2)
     have HQA:=hidden (HLS.out.q qa (List.mem_of_getElem? hqa2))
     have HQB:=hidden (HLS.out.q qb (List.mem_of_getElem? hqb2))
     have HLA:Hid (qa.hs.map Hd.l=(qs.map Qd.ls).getD pa []):=by
      show _=_
      rw [List.getD_eq_getElem?_getD,List.getElem?_map,hqa2];rfl
     have HLB:Hid (qb.hs.map Hd.l=(qs.map Qd.ls).getD pb []):=by
      show _=_
      rw [List.getD_eq_getElem?_getD,List.getElem?_map,hqb2];rfl
     have HIN:Hid (∀ p,p ∈ W→p<N→∀ c,c ∈ (qs.map Qd.ls).getD p []→∀ x,x ∈ c→x ∈ W):=fun p hp hpN c hc x hx=>by
      by_cases hpF:p<v
      ·by_cases hp0:p=0
       ·subst hp0
        rw [show (qs.map Qd.ls).getD 0 []=[[]] from HCD.out.zero] at hc
        rw [List.mem_singleton.1 hc] at hx
        simp at hx
       ·rw [show (qs.map Qd.ls).getD p []=[[p]] from HCD.out.src p (by omega) (by rw [HGF.out];exact hpF)] at hc
        rw [List.mem_singleton.1 hc] at hx
        rw [List.mem_singleton.1 hx];exact hp
      ·exact HWS.out p (by omega) hpN c hc x hx
     have HWA:Hid (∀ h,h ∈ qa.hs→∀ x,x ∈ h.l→x ∈ W):=fun h hh x hx=>HIN.out pa HNK.out.2.1 hpaN h.l (by rw [←HLA.out];exact List.mem_map_of_mem hh) x hx
     have HWB:Hid (∀ h,h ∈ qb.hs→∀ x,x ∈ h.l→x ∈ W):=fun h hh x hx=>HIN.out pb HNK.out.2.2 hpbN h.l (by rw [←HLB.out];exact List.mem_map_of_mem hh) x hx
     obtain ⟨H,EH⟩:=exh wr.heap.size
     rw [←Esa2.out] at ea2
     subst ea2
     subst ecv
     clear hcell ce2 hda hdb hqa2 hqb2 hd g3 g1
     go_wp2_with fail
     clear cdx cdy cqa cqb
     generalize hwi:wr=wi at *
     clear hwi
     obtain ⟨AL,EAL⟩:=exh (qa.hs.map Hd.l)
     obtain ⟨BL,EBL⟩:=exh (qb.hs.map Hd.l)
     have HBii:Hid (Bl wi wi):=Below.refl _ _
     go_loopw [8,11,12,13,14] (fun al' j' _ _ _ w'=>∃ (j:Nat) (hs:List Hd),j≤na1∧j' = .int .i64 (j:Int)∧Hid (w'.ownsRow H 24 1 al' hs.length (hs.map Hd.v))∧Hid (HDX H w' al' hs)∧Hid (hs.map Hd.l=(AL.take j).foldl (fun acc a=>rowC' acc a BL) [])∧Hid (AccI W (hs.map Hd.l))∧Hid (Bl wi w')) (fun _ j' _ _ _ _=>na1 - (intOf j').toNat)
     case atStart=>exact ⟨0,[],Nat.zero_le _,rfl,own_nil _ _ _ _,(fun x hx=>absurd hx (by simp)),rfl,AccI.nil W,HBii.out⟩
     case round =>
      obtain ⟨j,hs,hj,rfl,HO,HHD,HFO,HAC,HBI⟩:=hrel
      by_cases hlj:j<na1
      ·have hljI:(j:Int)<(na1:Int):=by omega
       obtain ⟨ha,hha⟩:=getElem_lt (show j<qa.hs.length by rw [←Ena1.out];exact hlj)
       obtain ⟨ba,oa,eqa,-,cha⟩:=HQA.out.r j ha hha
       rw [←Exa.out] at eqa
       have HCA:Hid (∀ x,Bl wi x→x.cell? ⟨ba,oa+j,none⟩=some ha.v):=fun x hx=>(hx.cell (p:=⟨ba,oa+j,none⟩) (cell_lt cha)).trans cha
       have HNA1:Hid (∀ x,Bl wi x→NumR x ha.a ha.l):=fun x hx=>((HQA.out.h ha (List.mem_of_getElem? hha)).1.num).to hx
       have hal4:=(HQA.out.h ha (List.mem_of_getElem? hha)).2
       have HWa:=hidden (HWA.out ha (List.mem_of_getElem? hha))
       have HFN:Hid (∀ acc,rowC' ((AL.take j).foldl (fun acc a=>rowC' acc a BL) []) ha.l BL=acc→(AL.take (j+1)).foldl (fun acc a=>rowC' acc a BL) []=acc):=fun acc he=>by
        rw [take_next AL j ha.l (by rw [EAL.out,List.getElem?_map,hha];rfl),List.foldl_append]
        exact he
       obtain ⟨A0,EA0⟩:=exh ((AL.take j).foldl (fun acc a=>rowC' acc a BL) [])
       rw [←EA0.out] at HFO HFN
       have e6:IntKind.i64.wrap ((j:Int)+1)=(j:Int)+1:=wrapI _ (by omega) (by omega)
       subst eqa
       clear hha cha
       go_wp2_with fail
       go_loopw [8,12,13,14] (fun al' k' _ _ w'=>∃ (m:Nat) (hs:List Hd),m≤nb1∧k' = .int .i64 (m:Int)∧Hid (w'.ownsRow H 24 1 al' hs.length (hs.map Hd.v))∧Hid (HDX H w' al' hs)∧Hid (hs.map Hd.l=(BL.take m).foldl (fun acc b=>Mp.stepC acc ha.l b) A0)∧Hid (AccI W (hs.map Hd.l))∧Hid (Bl wi w')) (fun _ k' _ _ _=>nb1 - (intOf k').toNat)
       case atStart=>exact ⟨0,hs,Nat.zero_le _,rfl,HO.out,HHD.out,HFO.out,HAC.out,HBI.out⟩
       case round =>
        clear HO HHD HFO HAC HBI
        obtain ⟨m,hs,hm,rfl,HO,HHD,HFI,HAC,HBI⟩:=hrel
        by_cases hlm:m<nb1
        ·have hlmI:(m:Int)<(nb1:Int):=by omega
         obtain ⟨hb,hhb⟩:=getElem_lt (show m<qb.hs.length by rw [←Enb1.out];exact hlm)
         obtain ⟨bb,ob,eqb,-,chb0⟩:=HQB.out.r m hb hhb
         rw [←Exb.out] at eqb
         have cha:=HCA.out wr HBI.out
         have chb:=(HBI.out.cell (p:=⟨bb,ob+m,none⟩) (cell_lt chb0)).trans chb0
         have HCB:Hid (∀ x,Bl wi x→x.cell? ⟨bb,ob+m,none⟩=some hb.v):=fun x hx=>(hx.cell (p:=⟨bb,ob+m,none⟩) (cell_lt chb0)).trans chb0
         have hbl4:=(HQB.out.h hb (List.mem_of_getElem? hhb)).2
         have HNB1:Hid (∀ x,Bl wi x→NumR x hb.a hb.l):=fun x hx=>((HQB.out.h hb (List.mem_of_getElem? hhb)).1.num).to hx
         have HWb:=hidden (HWB.out hb (List.mem_of_getElem? hhb))
         have HAS:=hidden (HAC.out.step HWa.out HWb.out)
         have HST:Hid ((BL.take (m+1)).foldl (fun acc b=>Mp.stepC acc ha.l b) A0=Mp.stepC (hs.map Hd.l) ha.l hb.l):=by
          show _=_
          rw [take_next BL m hb.l (by rw [EBL.out,List.getElem?_map,hhb];rfl),List.foldl_append,←HFI.out]
          rfl
         have HBd:Hid (Bl wi wr.drew):=Below.drew HBI.out
         have JN:=hidden (joinedD_any wr.drew ha.a hb.a ha.c hb.c ha.l hb.l (HNA1.out _ HBd.out) (HNB1.out _ HBd.out) hal4 hbl4)
         have hhl:hs.length≤41371966801:=by
          have:=HAC.out.len HWL.out
          rw [List.length_map] at this
          exact this
         have HHL:=hidden hhl
         have e7:IntKind.i64.wrap ((m:Int)+1)=(m:Int)+1:=wrapI _ (by omega) (by omega)
         unfold Hd.v at cha chb HCA HCB
         subst eqb
         obtain ⟨aa,Eaa⟩:=exh ha.a
         obtain ⟨al,Eal⟩:=exh ha.l.length
         obtain ⟨ac,Eac⟩:=exh ha.c
         obtain ⟨ba2,Eba2⟩:=exh hb.a
         obtain ⟨bl,Ebl⟩:=exh hb.l.length
         obtain ⟨bc2,Ebc2⟩:=exh hb.c
         rw [←Eaa.out,←Eal.out,←Eac.out] at cha HCA
         rw [←Eba2.out,←Ebl.out,←Ebc2.out] at chb HCB
         rw [←Eaa.out,←Eal.out,←Eac.out,←Eba2.out,←Ebl.out,←Ebc2.out] at JN
         obtain ⟨JL,EJL⟩:=exh (joinL ha.l hb.l)
         rw [←EJL.out] at JN
         clear hhb chb0 HFI HAC hal4 hbl4 hhl
         go_wp2_with fail
         refine wp_region_noPanic ?_
         refine wp_region_held_drew (S:=fun wz=>wz.cell? ⟨ba,oa+j,none⟩=some (.slice aa al ac)∧wz.cell? ⟨bb,ob+m,none⟩=some (.slice ba2 bl bc2)) (by kernel_rfl) (by exact ⟨cha,chb⟩) (fun hHeld=>?_)
         refine tk 0 ?_
         refine tk 1 ?_
         refine tk 2 ?_
         refine tk 3 ?_
         refine tk 4 ?_
         refine tk 5 ?_
         refine tk 6 ?_
         refine tk 7 ?_
         refine rd 8 fun K hK=>?_
         (try simp only [gA,gB,gC]);go_simp
         go_at_call 26
         refine JN.out.mono ?_
         rintro e w5 ⟨v5,rfl,HO5,HB5⟩
         have HBI5:Hid (Bl wi w5):=Bl.tr HBd.out HB5.out
         have HBR5:Hid (Bl wr w5):=Bl.tr (Below.drew (Below.refl _ _)) HB5.out
         have cha5:=HCA.out w5 HBI5.out
         have chb5:=HCB.out w5 HBI5.out
         obtain ⟨a6,c6,e6',-,-⟩:=own_num HO5.out
         subst e6'
         obtain ⟨a6',c6',e6',-,HN6,-⟩:=own_num HO5.out
         simp only [Value.slice.injEq,true_and] at e6'
         obtain ⟨rfl,rfl⟩:=e6'
         have HNJ:=hidden HN6
         have HNX:Hid (NumX w5 (fun b=>b<H) a6 JL):=fun i x hi=>by
          obtain ⟨b,o,e,c⟩:=HNJ.out i x hi
          refine ⟨b,o,e,?_,c⟩
          have hbb:=own_newB HO5.out b (by rw [e];rfl)
          have h1:wr.drew.heap.size=wr.heap.size:=rfl
          have h2:=HBI.out.size
          rw [←EH.out] at h2
          omega
         have HO5b:=hidden (own_below HO.out HBR5.out)
         have HHD5:=hidden (HHD.out.to HBR5.out)
         clear JN HN6 HO5 HB5 HO HHD
         go_wp2_with fail
         refine wo hK ⟨cha5,chb5⟩ fun _=>?_
         clear hK K
         refine tk 9 ?_
         refine tk 10 ?_
         refine tk 11 ?_
         refine tk 12 ?_
         refine tk 13 ?_
         refine wpAnyH_done (by kernel_rfl) ?_ _
         refine NoPanic.normal ?_
         clear cha chb cha5 chb5 hHeld
         obtain ⟨r,Er⟩:=exh (decide (JL.length≤4))
         obtain ⟨jl,Ejl⟩:=exh JL.length
         rw [←Er.out,←Ejl.out]
         cases r
         ·have HSF:Hid (hs.map Hd.l=(BL.take (m+1)).foldl (fun acc b=>Mp.stepC acc ha.l b) A0∧AccI W (hs.map Hd.l)):=by
           have e:Mp.stepC (hs.map Hd.l) ha.l hb.l=hs.map Hd.l:=by
            unfold Mp.stepC
            rw [←EJL.out,if_neg (of_decide_eq_false Er.out.symm)]
           refine ⟨?_,?_⟩
           ·rw [HST.out,e]
           ·have:=HAS.out
            rw [e] at this
            exact this
          go_wp2
          go_roundw
          case measure=>simp [intOf];omega
          case rel=>exact ⟨m+1,hs,by omega,by simp,HO5b.out,HHD5.out,HSF.out.1,HSF.out.2,HBI5.out⟩
         ·have hj4:JL.length≤4:=of_decide_eq_true Er.out.symm
          have HSS:Hid (Mp.stepC (hs.map Hd.l) ha.l hb.l=addC (hs.map Hd.l) JL):=by
           show _=_
           unfold Mp.stepC
           rw [←EJL.out,if_pos hj4]
          have AD:=hidden (addCut_any H w5 u8 hs ⟨a6,c6,JL⟩ (by rw [EH.out];exact HBI5.out.size) HO5b.out HHD5.out.at_ HNJ.out hj4 (by have:=HHL.out;omega))
          unfold Hd.v at AD
          rw [←Ejl.out] at AD
          have HJ4:=hidden hj4
          clear hj4
          go_wp2_with fail
          go_at_call 27
          refine AD.out.mono ?_
          rintro e w7 ⟨v7,hs7,rfl,HO7,HL7,-,HOR,HB7⟩
          have HHD7:Hid (HDX H w7 v7 hs7):=by
           rcases HOR.out with ⟨e1,e2⟩ | ⟨e1,e2⟩
           ·rw [e1,e2];exact HHD5.out.to HB7.out
           ·exact HHD5.out.add HB7.out HNX.out HJ4.out e1 e2
          clear HOR
          have HBI7:Hid (Bl wi w7):=Bl.tr HBI5.out HB7.out
          have HSF:Hid (hs7.map Hd.l=(BL.take (m+1)).foldl (fun acc b=>Mp.stepC acc ha.l b) A0∧AccI W (hs7.map Hd.l)):=by
           refine ⟨?_,?_⟩
           ·rw [HST.out,HSS.out];exact HL7.out
           ·have:=HAS.out
            rw [HSS.out] at this
            rw [show hs7.map Hd.l=addC (hs.map Hd.l) JL from HL7.out]
            exact this
          clear AD HL7 HB7
          go_wp2
          go_roundw
          case measure=>simp [intOf];omega
          case rel=>exact ⟨m+1,hs7,by omega,by simp,HO7.out,HHD7.out,HSF.out.1,HSF.out.2,HBI7.out⟩
        ·have hgm:¬ (m:Int)<(nb1:Int):=by omega
         have HFO2:Hid (hs.map Hd.l=(AL.take (j+1)).foldl (fun acc a=>rowC' acc a BL) []):=by
          show _=_
          refine (HFN.out _ ?_).symm
          rw [HFI.out,List.take_of_length_le (by rw [EBL.out,List.length_map,←Enb1.out];omega)]
          rfl
         clear HFI
         go_wp2
         go_roundw
         case measure=>simp [intOf];omega
         case rel=>exact ⟨j+1,hs,by omega,by simp,HO.out,HHD.out,HFO2.out,HAC.out,HBI.out⟩
      ·have hgj:¬ (j:Int)<(na1:Int):=by omega
       have HAL:Hid (hs.map Hd.l=allC ((qs.map Qd.ls).getD (gr.a N) []) ((qs.map Qd.ls).getD (gr.b N) [])):=by
        show _=_
        rw [HFO.out,List.take_of_length_le (by rw [EAL.out,List.length_map,←Ena1.out];omega),HGAB.out.1,HGAB.out.2,←HLA.out,←HLB.out,←EAL.out,←EBL.out]
        rfl
       have hhl:hs.length≤41371966801:=by
        have:=HAC.out.len HWL.out
        rw [List.length_map] at this
        exact this
       obtain ⟨nh,Enh⟩:=exh hs.length
       rw [←Enh.out] at hhl HO
       obtain ⟨la,lc,elv,-,hlcell⟩:=own_num HLS.out.ol
       rw [hll2] at elv
       have HLC:Hid (∀ x,Bl wi x→∀ u,u<N→∃ b o,la=some ⟨b,o,none⟩∧x.cell? ⟨b,o+u,none⟩=some (.int .i64 (ls.getD u 0:Nat))):=fun x hx u hu=>by
        obtain ⟨y,hy⟩:=getElem_lt (show u<ls.length by rw [hll2];exact hu)
        obtain ⟨b,o,e,c⟩:=hlcell.1 u y hy
        rw [show ls.getD u 0=y by rw [List.getD_eq_getElem?_getD,hy];rfl]
        exact ⟨b,o,e,(hx.cell (p:=⟨b,o+u,none⟩) (cell_lt c)).trans c⟩
       have HLOW:Hid (∀ h,h ∈ hs→∀ x,x ∈ h.l→x<N):=fun h hh x hx=>HCD.out.low (x:=gr.a N) (y:=gr.b N) (by rw [HGAB.out.1];exact hpaN) (by rw [HGAB.out.2];exact hpbN) h.l (by rw [←HAL.out];exact List.mem_map_of_mem hh) x hx
       have hNpos:0<N:=by have:=EN.out;omega
       obtain ⟨bL,oL,eL,-⟩:=HLC.out wi HBii.out 0 hNpos
       have HLC2:Hid (∀ x,Bl wi x→∀ u,u<N→x.cell? ⟨bL,oL+u,none⟩=some (.int .i64 (ls.getD u 0:Nat))):=fun x hx u hu=>by
        obtain ⟨b,o,e,c⟩:=HLC.out x hx u hu
        rw [eL] at e
        simp only [Option.some.injEq,Addr.mk.injEq,and_true] at e
        obtain ⟨rfl,rfl⟩:=e
        exact c
       have hne:hs≠[]:=fun e=>by
        have h1:=HCD.out.ne (x:=gr.a N) (y:=gr.b N) (by rw [HGAB.out.1];exact hpaN) (by rw [HGAB.out.2];exact hpbN)
        apply h1
        show allC ((qs.map Qd.ls).getD (gr.a N) []) ((qs.map Qd.ls).getD (gr.b N) [])=[]
        rw [←HAL.out,e];rfl
       have hnh:0<nh:=by rw [Enh.out];exact List.length_pos_iff.2 hne
       obtain ⟨ga,gc,eal,-,hgcell⟩:=own_g HO.out
       obtain ⟨h0,hh0⟩:=getElem_lt (show 0<hs.length by rw [←Enh.out];exact hnh)
       obtain ⟨bA,eA2,-⟩:=hgcell 0 h0 hh0
       have HGC:Hid (∀ (j:Nat) (h:Hd),hs[j]?=some h→wr.cell? ⟨bA,j,none⟩=some (.slice h.a h.l.length h.c)):=fun j h hh=>by
        obtain ⟨b,e,c⟩:=hgcell j h hh
        rw [eA2] at e
        simp only [Option.some.injEq,Addr.mk.injEq,and_true] at e
        obtain rfl:=e
        exact c
       obtain ⟨lab,Elab⟩:=exh (fun u=>ls.getD u 0)
       have HLAB:Hid (∀ u,ls.getD u 0=lab u):=fun u=>by rw [Elab.out]
       have HLK2:Hid (∀ u,lab u≤k):=fun u=>by rw [←HLAB.out];exact HLK.out u
       have HALb:Hid (hs.map Hd.l=allC ((qs.map Qd.ls).getD (gr.a N) []) ((qs.map Qd.ls).getD (gr.b N) [])):=HAL.out
       have hkna:k≤150:=by omega
       subst eL
       subst elv
       subst eA2
       subst eal
       clear hlcell HFO HLC hgcell hh0 hne
       generalize hwj:wr=wj at *
       clear hwj
       go_wp2_with fail
       go_loopw [15,16,17,18] (fun b' j' _ _ w'=>∃ (j:Nat) (b:Int),j≤nh∧j' = .int .i64 (j:Int)∧b' = .int .i64 b∧-1≤b∧b≤150∧Hid (b=((hs.map Hd.l).take j).foldl (fun (b:Int) c=>if b<0∨(mxC lab c:Int)<b then (mxC lab c:Int) else b) (-1))∧Hid (w'=wj)) (fun _ j' _ _ _=>nh - (intOf j').toNat)
       case atStart=>exact ⟨0,-1,Nat.zero_le _,rfl,rfl,by omega,by omega,rfl,rfl⟩
       case round =>
        obtain ⟨j2,b,hj2,rfl,rfl,hb1,hb2,HBE,HWJ⟩:=hrel
        obtain rfl:=HWJ.out
        clear HWJ
        by_cases hlj2:j2<nh
        ·have hlj2I:(j2:Int)<(nh:Int):=by omega
         obtain ⟨h,hh⟩:=getElem_lt (show j2<hs.length by rw [←Enh.out];exact hlj2)
         have cH:=HGC.out j2 h hh
         have hl4:=(HHD.out h (List.mem_of_getElem? hh)).2
         have HNM:=hidden ((HHD.out h (List.mem_of_getElem? hh)).1.num)
         have HLW:=hidden (HLOW.out h (List.mem_of_getElem? hh))
         have HBN:Hid (((hs.map Hd.l).take (j2+1)).foldl (fun (b:Int) c=>if b<0∨(mxC lab c:Int)<b then (mxC lab c:Int) else b) (-1)=if b<0∨(mxC lab h.l:Int)<b then (mxC lab h.l:Int) else b):=by
          show _=_
          rw [take_next (hs.map Hd.l) j2 h.l (by rw [List.getElem?_map,hh];rfl),List.foldl_append,←HBE.out]
          rfl
         have e8:IntKind.i64.wrap ((j2:Int)+1)=(j2:Int)+1:=wrapI _ (by omega) (by omega)
         obtain ⟨hA,EhA⟩:=exh h.a
         obtain ⟨hn,Ehn⟩:=exh h.l.length
         obtain ⟨hc,Ehc⟩:=exh h.c
         rw [←EhA.out,←Ehn.out,←Ehc.out] at cH
         rw [←Ehn.out] at hl4
         rw [←EhA.out] at HNM
         clear hh HBE
         go_wp2_with fail
         go_loopw [17,18] (fun d' m' w'=>∃ (m dd:Nat),m≤hn∧m' = .int .i64 (m:Int)∧d' = .int .i64 (dd:Int)∧dd≤150∧Hid (dd=(h.l.take m).foldl (fun d u=>max d (lab u)) 0)∧Hid (w'=wr)) (fun _ m' _=>hn - (intOf m').toNat)
         case atStart=>exact ⟨0,0,Nat.zero_le _,rfl,rfl,by omega,rfl,rfl⟩
         case round =>
          obtain ⟨m,dd,hm,rfl,rfl,hdd,HDD,HWJ⟩:=hrel
          obtain rfl:=HWJ.out
          clear HWJ
          by_cases hlm:m<hn
          ·have hlmI:(m:Int)<(hn:Int):=by omega
           obtain ⟨x,hx⟩:=getElem_lt (show m<h.l.length by rw [←Ehn.out];exact hlm)
           obtain ⟨bx,ox,ex,cx⟩:=HNM.out m x hx
           have hxN:=HLW.out x (List.mem_of_getElem? hx)
           have cl:=HLC2.out wr HBI.out x hxN
           rw [HLAB.out] at cl
           have hxI:(x:Int)<(N:Int):=by omega
           have hlx:=HLK2.out x
           obtain ⟨lx,Elx⟩:=exh (lab x)
           rw [←Elx.out] at cl hlx
           have HMN:Hid ((h.l.take (m+1)).foldl (fun d u=>max d (lab u)) 0=max dd lx):=by
            show _=_
            rw [take_next _ _ _ hx,List.foldl_append,←HDD.out,Elx.out];rfl
           have MO:=hidden (L.most_doc wr (dd:Int) (lx:Int))
           have hmx:L.mostI (dd:Int) (lx:Int)=((max dd lx:Nat):Int):=by unfold L.mostI;split <;> omega
           rw [hmx] at MO
           obtain ⟨mx,Emx⟩:=exh (max dd lx)
           have hmx1:mx≤150:=by rw [Emx.out];omega
           rw [←Emx.out] at MO HMN
           have e9:IntKind.i64.wrap ((m:Int)+1)=(m:Int)+1:=wrapI _ (by omega) (by omega)
           subst ex
           clear hx hmx HDD
           go_wp2_with fail
           go_at_call 25
           refine MO.out.mono ?_
           rintro e w6 ⟨rfl,rfl⟩
           clear MO
           go_wp2
           go_roundw
           case measure=>simp [intOf];omega
           case rel=>exact ⟨m+1,mx,by omega,by simp,rfl,hmx1,HMN.out.symm,True.intro⟩
          ·have hgm:¬ (m:Int)<(hn:Int):=by omega
           have HDE:Hid (dd=mxC lab h.l):=by
            show _=_
            rw [HDD.out,List.take_of_length_le (by have:=Ehn.out;omega)];rfl
           rw [←HDE.out] at HBN
           clear HDD
           by_cases hb0:b<0
           ·rw [if_pos (Or.inl hb0)] at HBN
            go_wp2
            go_roundw
            case measure=>simp [intOf];omega
            case rel=>exact ⟨j2+1,(dd:Int),by omega,by simp,rfl,by omega,by omega,HBN.out.symm,True.intro⟩
           ·by_cases hdb:(dd:Int)<b
            ·rw [if_pos (Or.inr hdb)] at HBN
             go_wp2
             go_roundw
             case measure=>simp [intOf];omega
             case rel=>exact ⟨j2+1,(dd:Int),by omega,by simp,rfl,by omega,by omega,HBN.out.symm,True.intro⟩
            ·rw [if_neg (by omega)] at HBN
             go_wp2
             go_roundw
             case measure=>simp [intOf];omega
             case rel=>exact ⟨j2+1,b,by omega,by simp,rfl,hb1,hb2,HBN.out.symm,True.intro⟩
        ·have hgj2:¬ (j2:Int)<(nh:Int):=by omega
         have HBB:Hid (b=bestC lab (allC ((qs.map Qd.ls).getD (gr.a N) []) ((qs.map Qd.ls).getD (gr.b N) []))):=by
          show _=_
          rw [HBE.out,List.take_of_length_le (by rw [List.length_map,←Enh.out];omega),HALb.out];rfl
         have hbk:0≤b∧b≤(k:Int):=by
          have hne:=HCD.out.ne (x:=gr.a N) (y:=gr.b N) (by rw [HGAB.out.1];exact hpaN) (by rw [HGAB.out.2];exact hpbN)
          obtain ⟨c,_,hc⟩:=bestC_spec lab _ hne
          have hm:=mxC_most HLK2.out c 0 (Nat.zero_le _)
          have he:b=(mxC lab c:Int):=HBB.out.trans hc
          have hm2:mxC lab c≤k:=hm
          omega
         obtain ⟨lvn,hlvn⟩:∃ lvn:Nat,(lvn:Int)=b+1:=⟨(b+1).toNat,by omega⟩
         have HLV:=hidden hlvn
         have HLE:Hid (lvn≤k+1):=by show _≤_;omega
         have eL1:IntKind.i64.wrap (b+1)=(lvn:Int):=by rw [wrapI _ (by omega) (by omega)];exact hlvn.symm
         have eN1:IntKind.i64.wrap ((v:Int)+(k:Int))=(N:Int):=by rw [wrapI _ (by omega) (by omega)];have:=EN.out;omega
         have HOL:Hid (wr.ownsRow C0 3 1 (.slice (some ⟨bL,oL,none⟩) N lc) N (ls.map nV)):=by
          have:=own_below HLS.out.ol HBI.out
          rw [hll2] at this
          exact this
         have HC1:Hid ((wr.alloc (.cells #[.int .i64 (lvn:Int)] 3)).cell? ⟨wr.heap.size,0,none⟩=some (.int .i64 (lvn:Int))):=(Blk.new wr _ _).cell (i:=0) rfl
         have hszA:C0≤wr.heap.size+1:=by have:=HLS.out.le;have:=HBI.out.size;omega
         have HB1:Hid (Bl wr (wr.alloc (.cells #[.int .i64 (lvn:Int)] 3))):=(Below.refl _ _).alloc (Nat.le_refl _) _
         have HHnh:Hid (nh=hs.length):=Enh.out
         clear HBE hlvn hbk hgj2
         have tok:True:=trivial
         go_upto_region 38 with (have _t:=tok;at_builtin;(refine app_int _ rfl (.tmp 140) (.tmp 143) rfl C0 (.slice (some ⟨bL,oL,none⟩) N lc) N _ rfl (HOL.out.alloc _) ⟨wr.heap.size,0,none⟩ (lvn:Int) rfl HC1.out (by omega) (by simpa using hszA) ?_;intro g2 c2 w2 hown hgrow hpl;have HO2:=hidden hown;have HG2:=hidden hgrow;have HP2:=hidden hpl;clear tok hown hgrow hpl))
         obtain ⟨P,EP⟩:=exh w2.heap.size
         obtain ⟨w3,Ew3⟩:=exh ((w2.alloc (.cells #[.int .i64 (N:Int)] 3)).alloc (.cells #[.slice (some ⟨w2.heap.size,0,none⟩) 1 1] 24))
         have HB3:Hid (Bl w2 w3):=by rw [Ew3.out];exact ((Below.refl _ _).alloc (Nat.le_refl _) _).alloc (by simp) _
         have HK3:Hid (Blk w3 P 3 #[.int .i64 (N:Int)]∧w3.cell? ⟨P+1,0,none⟩=some (.slice (some ⟨P,0,none⟩) 1 1)):=by
          rw [Ew3.out,EP.out]
          refine ⟨(Blk.new w2 _ _).below ((Below.refl _ _).alloc (Nat.le_refl _) _),?_⟩
          have:=(Blk.new (w2.alloc (.cells #[.int .i64 (N:Int)] 3)) 24 #[.slice (some ⟨w2.heap.size,0,none⟩) 1 1]).cell (i:=0) rfl
          rw [show (w2.alloc (.cells #[.int .i64 (N:Int)] 3)).heap.size=w2.heap.size+1 by simp] at this
          exact this
         have HOA:=hidden (ls_gate1 HLS.out EH.out HO.out HB1.out HG2.out HB3.out)
         have hszH:H≤w3.heap.size:=by have:=HBI.out.size;have:=HB1.out.size;have:=HG2.out.size;have:=HB3.out.size;have:=EH.out;omega
         have HCK:Hid (∀ w5,w3.grownBy w5 (some bA)→w5.ownsRow C0 60 1 (.slice (some ⟨bc,0,none⟩) N cc) N (qs.map Qd.v)∧C0≤w5.heap.size+1):=fun w5 h5=>by
          have:=ls_gate2 HLS.out EH.out HBI.out HO.out HB1.out HG2.out HB3.out h5
          rw [hql] at this
          exact ⟨this.1,by omega⟩
         have hnhb:nh≤800000000000:=by omega
         have tok1:True:=trivial
         have tok2:True:=trivial
         go_upto_region 13 with (first | (have _t:=tok1;at_builtin;(rw [←Ew3.out,←EP.out];refine app_r _ rfl (.tmp 146) (.tmp 151) rfl H (.slice (some ⟨bA,0,none⟩) nh gc) nh _ rfl HOA.out ⟨P+1,0,none⟩ (some ⟨P,0,none⟩) 1 1 rfl HK3.out.2 (by omega) hszH ?_;intro g5 c5 w5 hown hgrow hpl;have HO5:=hidden hown;have HG5:=hidden hgrow;have HP5:=hidden hpl;obtain ⟨hoc5,hsz5⟩:=HCK.out w5 hgrow;have HOC5:=hidden hoc5;clear tok1 hown hgrow hpl hoc5)) | (have _t:=tok2;at_builtin;(refine app_q _ rfl (.tmp 145) (.tmp 153) rfl C0 (.slice (some ⟨bc,0,none⟩) N cc) N _ rfl (HOC5.out.alloc _) ⟨w5.heap.size,0,none⟩ (some ⟨g5,0,none⟩) (nh+1) c5 rfl ((Blk.new w5 _ _).cell (i:=0) rfl) (by omega) (by simpa using hsz5) ?_;intro g1 c1 w7 hown hgrow hpl;have HO7:=hidden hown;have HG7:=hidden hgrow;have HP7:=hidden hpl;clear tok2 hown hgrow hpl)))
         have HL7:Hid (LsAt C0 w7 (.slice (some ⟨g1,0,none⟩) (N+1) c1) (.slice (some ⟨g2,0,none⟩) (N+1) c2) (qs++[⟨some ⟨g5,0,none⟩,c5,hs++[⟨some ⟨P,0,none⟩,1,[N]⟩]⟩]) (ls++[lvn])∧Below C0 wi w7) :=
          ls_gate HLS.out EH.out HBI.out HO.out HHD.out HHnh.out HB1.out HG2.out (by rw [hll2];exact HO2.out) HP2.out HB3.out HK3.out.1 (by rw [EP.out];exact Nat.le_refl _) HG5.out HO5.out HP5.out ((Below.refl w5.heap.size w5).alloc (Nat.le_refl _) _) HG7.out (by rw [hql];exact HO7.out) HP7.out
         have HML:Hid ((qs++[(⟨some ⟨g5,0,none⟩,c5,hs++[⟨some ⟨P,0,none⟩,1,[N]⟩]⟩:Qd)]).map Qd.ls=qs.map Qd.ls++[allC ((qs.map Qd.ls).getD (gr.a N) []) ((qs.map Qd.ls).getD (gr.b N) [])++[[N]]]):=by
          show _=_
          rw [List.map_append,←HALb.out]
          show _++[List.map Hd.l (hs++[_])]=_
          rw [List.map_append];rfl
         have hvk:v+(k+1)=N+1:=by have:=EN.out;omega
         have HC7:Hid (CutsD gr (v+(k+1)) (fun u=>((qs++[(⟨some ⟨g5,0,none⟩,c5,hs++[⟨some ⟨P,0,none⟩,1,[N]⟩]⟩:Qd)]).map Qd.ls).getD u []) (fun u=>(ls++[lvn]).getD u 0)):=by
          have h1:(fun u=>ls.getD u 0)=lab:=Elab.out.symm
          have:=HCD.out.step (by rw [List.length_map,hql]) hll2 (by rw [HGF.out];have:=EN.out;omega) (lv:=lvn) (by rw [h1,←HBB.out];exact HLV.out)
          rw [hvk,HML.out]
          exact this
         have HK7:Hid (∀ u,(ls++[lvn]).getD u 0≤k+1):=fun u=>by
          by_cases e1:u<ls.length
          ·rw [getD_old e1];have:=HLK.out u;omega
          ·by_cases e2:u=ls.length
           ·rw [getD_new e2];exact HLE.out
           ·rw [List.getD_eq_getElem?_getD,List.getElem?_eq_none (by rw [List.length_append,List.length_singleton];omega)];exact Nat.zero_le _
         have HZ7:Hid (∀ u,u<v→(ls++[lvn]).getD u 0=0):=fun u hu=>by
          rw [getD_old (by rw [hll2];have:=EN.out;omega)];exact HLZ.out u hu
         have HW7:Hid (∀ u,v≤u→u<v+(k+1)→∀ c,c ∈ ((qs++[(⟨some ⟨g5,0,none⟩,c5,hs++[⟨some ⟨P,0,none⟩,1,[N]⟩]⟩:Qd)]).map Qd.ls).getD u []→∀ x,x ∈ c→x ∈ W):=fun u h1 h2 c hc x hx=>by
          rw [HML.out] at hc
          by_cases e:u<N
          ·rw [getD_old (by rw [List.length_map,hql];exact e)] at hc
           exact HWS.out u h1 e c hc x hx
          ·rw [getD_new (by rw [List.length_map,hql];omega)] at hc
           rcases List.mem_append.1 hc with hc | hc
           ·rw [←HALb.out] at hc
            exact (HAC.out.ok c hc).2 x hx
           ·rw [List.mem_singleton.1 hc] at hx
            rw [List.mem_singleton.1 hx];exact HNK.out.1
         have HF7:Hid (∀ q,q ∈ qs++[(⟨some ⟨g5,0,none⟩,c5,hs++[⟨some ⟨P,0,none⟩,1,[N]⟩]⟩:Qd)]→q.hs.length≤41371966802):=fun q hq=>by
          rcases List.mem_append.1 hq with hq | hq
          ·exact HQF.out q hq
          ·obtain rfl:=List.mem_singleton.1 hq
           show (hs++[_]).length≤_
           rw [List.length_append,List.length_singleton]
           have:=HHnh.out
           omega
         have HB7:Hid (Below C0 w0 w7):=HB.out.trans HL7.out.2
         have hqs7:(qs++[(⟨some ⟨g5,0,none⟩,c5,hs++[⟨some ⟨P,0,none⟩,1,[N]⟩]⟩:Qd)]).length=v+(k+1):=by rw [List.length_append,List.length_singleton,hql,hvk]
         have hls7:(ls++[lvn]).length=v+(k+1):=by rw [List.length_append,List.length_singleton,hll2,hvk]
         obtain ⟨qs7,Eqs7⟩:=exh (qs++[(⟨some ⟨g5,0,none⟩,c5,hs++[⟨some ⟨P,0,none⟩,1,[N]⟩]⟩:Qd)])
         obtain ⟨ls7,Els7⟩:=exh (ls++[lvn])
         rw [←Eqs7.out] at HL7 HC7 HW7 HF7 hqs7
         rw [←Els7.out] at HL7 HC7 HK7 HZ7 hls7
         have HR7:Hid (qs7.length=v+(k+1)∧ls7.length=v+(k+1)):=⟨hqs7,hls7⟩
         have e10:IntKind.i64.wrap ((k:Int)+1)=(k:Int)+1:=wrapI _ (by omega) (by omega)
         clear HML HB3 HK3 HOA HCK HO5 HG5 HP5 HOC5 HO7 HG7 HP7 HO2 HG2 HP2 HOL HC1 HB1 hvk hqs7 hls7 Ew3 HWS HQF HLS HCD HO HHD HAC HBI HGC HLC2
         go_wp2
         go_roundw
         case measure=>simp [intOf];omega
         case rel=>exact ⟨k+1,qs7,ls7,by omega,by simp,HR7.out.1,HR7.out.2,HL7.out.1,HC7.out,HK7.out,HZ7.out,HW7.out,HF7.out,HB7.out⟩
    ·have hgek:¬ (k:Int)<(na:Int):=by omega
     obtain rfl:k=na:=by omega
     rw [hall] at hql hll2 HCD
     obtain ⟨la,lc,elv,-,hlcell,-⟩:=own_num HLS.out.ol
     rw [hll2] at elv
     obtain ⟨lab,Elab⟩:=exh (fun u=>ls.getD u 0)
     have HLAB:Hid (∀ u,ls.getD u 0=lab u):=fun u=>by rw [Elab.out]
     have HDO:Hid (∀ x:World,Bl wr x→∀ l:Nat,l<2*n→Calls Try.prog 28 #[.agg #[.int .i64 (ni:Int),.slice sa1 nl S.c1,.slice sa2 k S.c2,.slice sa3 no S.c3],.slice la n lc,.int .i64 (l:Nat)] x fun e w'=>e = .returned (.int .i64 (dofL v lab l:Nat))∧Bl x w'):=fun x hx l hl=>by
      have:=depthOf_any x S G ni n HHF.out la lc n lab (fun u hu=>by
       obtain ⟨y,hy⟩:=getElem_lt (show u<ls.length by rw [hll2];exact hu)
       obtain ⟨b,o,e,c⟩:=hlcell u y hy
       rw [←HLAB.out,show ls.getD u 0=y by rw [List.getD_eq_getElem?_getD,hy];rfl]
       exact ⟨b,o,e,(hx.cell (p:=⟨b,o+u,none⟩) (cell_lt c)).trans c⟩) l (by omega) (by omega)
      unfold GrS.cells at this
      rw [HHF.out.ins,←Enl.out,←Ena.out,←Eno.out,←Esa1.out,←Esa2.out,←Esa3.out,←EF.out] at this
      exact this
     have HDB:Hid (∀ l,dofL v lab l≤200):=fun l=>by
      unfold dofL
      split
      ·have:=HLK.out (l / 2);rw [HLAB.out] at this;omega
      ·omega
     obtain ⟨es,Ees⟩:=exh (endL G)
     have HEO:Hid (∀ (i:Nat) (z:Int),G.outs[i]?=some z→es[i]?=some z):=fun i z hz=>by
      rw [Ees.out];unfold endL
      rw [List.getElem?_append_left (List.getElem?_eq_some_iff.1 hz).1];exact hz
     have HEL:Hid (∀ (i:Nat) (d:LatD),G.lats[i]?=some d→es[no+i]?=some d.next):=fun i d hd=>by
      rw [Ees.out];unfold endL
      rw [List.getElem?_append_right (by rw [←Eno.out];omega),←Eno.out,Nat.add_sub_cancel_left,List.getElem?_map,hd];rfl
     have HEE:Hid (es.length=no+nl):=by
      show _=_
      rw [Ees.out];unfold endL
      rw [List.length_append,List.length_map,Eno.out,Enl.out]
     have HCF:Hid (CutsD gr n (fun u=>(qs.map Qd.ls).getD u []) lab):=by rw [Elab.out];exact HCD.out
     have HZF:Hid (∀ u,u<v→lab u=0):=fun u hu=>by rw [←HLAB.out];exact HLZ.out u hu
     subst elv
     generalize hwk:wr=wk at *
     clear hwk hlcell HCD HLZ HWS HQF HLS
     have HBk:Hid (Bl wk wk):=Below.refl _ _
     have HGX:Hid (∀ x:World,Bl wk x→Below C0 w0 x):=fun x hx=>HB.out.trans (hx.mono (by rw [EC0.out];exact HB.out.size))
     go_wp2_with fail
     go_loopw [19,20] (fun d' i' w'=>∃ (i dd:Nat),i≤no∧i' = .int .i64 (i:Int)∧d' = .int .i64 (dd:Int)∧dd≤200∧Hid (dd=lstV v lab (es.take i))∧Hid (Bl wk w')) (fun _ i' _=>no - (intOf i').toNat)
     case atStart=>exact ⟨0,0,Nat.zero_le _,rfl,rfl,by omega,rfl,HBk.out⟩
     case round =>
      obtain ⟨i,dd,hi,rfl,rfl,hdd,HDD,HBW⟩:=hrel
      obtain ⟨f0,f1,f2,f3⟩:=HGB.out wr (HGX.out _ HBW.out)
      by_cases hli:i<no
      ·have hliI:(i:Int)<(no:Int):=by omega
       obtain ⟨z,hz⟩:=getElem_lt (show i<G.outs.length by rw [←Eno.out];exact hli)
       obtain ⟨b3,o3,ea3,-,cz0⟩:=(HGR.out wr (HGX.out _ HBW.out)).o.intR hz
       obtain ⟨hz0,hz1⟩:=HHF.out.outs z (List.mem_of_getElem? hz)
       obtain ⟨p,Ep⟩:=exh z.toNat
       have hp:z=(p:Int):=by have:=Ep.out;omega
       rw [hp] at cz0
       have hp2:p<2*n:=by omega
       have HSX:Hid (∀ x:World,Bl wr x→(x.cell? ⟨gb,0,none⟩=some (.int .i64 (ni:Int))∧x.cell? ⟨gb,1,none⟩=some (.slice sa1 nl S.c1)∧x.cell? ⟨gb,2,none⟩=some (.slice sa2 k S.c2)∧x.cell? ⟨gb,3,none⟩=some (.slice sa3 no S.c3)∧x.cell? ⟨b3,o3+i,none⟩=some (.int .i64 (p:Int)))):=fun x hx=>by
        obtain ⟨a0,a1,a2,a3⟩:=HGB.out x (HGX.out _ (Bl.tr HBW.out hx))
        exact ⟨a0,a1,a2,a3,(hx.cell (p:=⟨b3,o3+i,none⟩) (cell_lt cz0)).trans cz0⟩
       have HNX:Hid (lstV v lab (es.take (i+1))=max dd (dofL v lab p)):=by
        show _=_
        rw [lstV_next (HEO.out i z hz),←HDD.out,←Ep.out]
       have hdp:=HDB.out p
       have DO:=hidden (HDO.out wr.drew (Bl.tr HBW.out (Below.drew (Below.refl _ _))) p hp2)
       obtain ⟨dx,Edx⟩:=exh (dofL v lab p)
       rw [←Edx.out] at HNX hdp DO
       have HMO:Hid (∀ x,Calls Try.prog 25 #[.int .i64 (dd:Int),.int .i64 (dx:Int)] x fun e w'=>e = .returned (.int .i64 ((max dd dx:Nat):Int))∧w'=x):=fun x=>by
        have:=L.most_doc x (dd:Int) (dx:Int)
        rw [show L.mostI (dd:Int) (dx:Int)=((max dd dx:Nat):Int) by unfold L.mostI;split <;> omega] at this
        exact this
       obtain ⟨mx,Emx⟩:=exh (max dd dx)
       have hmx:mx≤200:=by rw [Emx.out];omega
       rw [←Emx.out] at HNX HMO
       have e11:IntKind.i64.wrap ((i:Int)+1)=(i:Int)+1:=wrapI _ (by omega) (by omega)
       rw [←Esa3.out] at ea3
       subst ea3
       clear hz hz0 hz1 hp HDD
       go_wp2_with fail
       refine wp_region_noPanic ?_
       refine wp_region_held_drew (S:=fun wz=>wz.cell? ⟨gb,0,none⟩=some (.int .i64 (ni:Int))∧wz.cell? ⟨gb,1,none⟩=some (.slice sa1 nl S.c1)∧wz.cell? ⟨gb,2,none⟩=some (.slice sa2 k S.c2)∧wz.cell? ⟨gb,3,none⟩=some (.slice (some ⟨b3,o3,none⟩) no S.c3)∧wz.cell? ⟨b3,o3+i,none⟩=some (.int .i64 (p:Int))) (by kernel_rfl) (by exact ⟨f0,f1,f2,f3,cz0⟩) (fun hHeld=>?_)
       refine tk 0 ?_
       refine tk 1 ?_
       refine tk 2 ?_
       refine tk 3 ?_
       refine tk 4 ?_
       refine tk 5 ?_
       refine tk 6 ?_
       refine tk 7 ?_
       refine rd 8 fun K hK=>?_
       (try simp only [gA,gB,gC]);go_simp
       go_at_call 28
       refine DO.out.mono ?_
       rintro e w5 ⟨rfl,hb5⟩
       have HB5:Hid (Bl wr w5):=Bl.tr (Below.drew (Below.refl _ _)) hb5
       clear DO hb5
       go_wp2_with fail
       refine wo hK (HSX.out w5 HB5.out) fun _=>?_
       clear hK K
       refine rd 9 fun K hK=>?_
       (try simp only [gA,gB,gC]);go_simp
       go_at_call 25
       refine (HMO.out w5).mono ?_
       rintro e w6 ⟨rfl,rfl⟩
       go_wp2_with fail
       refine wo hK (HSX.out w6 HB5.out) fun _=>?_
       clear hK K
       refine tk 10 ?_
       refine wpAnyH_done (by kernel_rfl) ?_ _
       refine NoPanic.normal ?_
       have HBF:Hid (Bl wk w6):=Bl.tr HBW.out HB5.out
       clear f0 f1 f2 f3 cz0 HSX HMO hHeld
       go_wp2
       go_roundw
       case measure=>simp [intOf];omega
       case rel=>exact ⟨i+1,mx,by omega,by simp,rfl,hmx,HNX.out.symm,HBF.out⟩
      ·have hgi:¬ (i:Int)<(no:Int):=by omega
       obtain rfl:i=no:=by omega
       have HDD0:Hid (dd=lstV v lab (es.take (i+0))):=HDD.out
       clear HDD
       go_wp2_with fail
       go_loopw [19,21] (fun d' i' w'=>∃ (j dd:Nat),j≤nl∧i' = .int .i64 (j:Int)∧d' = .int .i64 (dd:Int)∧dd≤200∧Hid (dd=lstV v lab (es.take (i+j)))∧Hid (Bl wk w')) (fun _ i' _=>nl - (intOf i').toNat)
       case atStart=>exact ⟨0,dd,Nat.zero_le _,rfl,rfl,hdd,HDD0.out,HBW.out⟩
       case round =>
        clear HDD0 HBW f0 f1 f2 f3
        obtain ⟨j,dd,hj,rfl,rfl,hdd,HDD,HBW⟩:=hrel
        obtain ⟨f0,f1,f2,f3⟩:=HGB.out wr (HGX.out _ HBW.out)
        by_cases hlj:j<nl
        ·have hljI:(j:Int)<(nl:Int):=by omega
         obtain ⟨z,hz⟩:=getElem_lt (show j<G.lats.length by rw [←Enl.out];exact hlj)
         obtain ⟨b3,o3,ea3,-,cel⟩:=(HGR.out wr (HGX.out _ HBW.out)).l.el hz
         have cz0:wr.cell? ⟨b3,o3+j*2,none⟩=some (.int .i64 z.next):=cel 0 _ rfl
         obtain ⟨hz0,hz1⟩:=HHF.out.lats z (List.mem_of_getElem? hz)
         obtain ⟨p,Ep⟩:=exh z.next.toNat
         have hp:z.next=(p:Int):=by have:=Ep.out;omega
         rw [hp] at cz0
         have hp2:p<2*n:=by omega
         have HSX:Hid (∀ x:World,Bl wr x→(x.cell? ⟨gb,0,none⟩=some (.int .i64 (ni:Int))∧x.cell? ⟨gb,1,none⟩=some (.slice sa1 nl S.c1)∧x.cell? ⟨gb,2,none⟩=some (.slice sa2 k S.c2)∧x.cell? ⟨gb,3,none⟩=some (.slice sa3 i S.c3)∧x.cell? ⟨b3,o3+j*2,none⟩=some (.int .i64 (p:Int)))):=fun x hx=>by
          obtain ⟨a0,a1,a2,a3⟩:=HGB.out x (HGX.out _ (Bl.tr HBW.out hx))
          exact ⟨a0,a1,a2,a3,(hx.cell (p:=⟨b3,o3+j*2,none⟩) (cell_lt cz0)).trans cz0⟩
         have HNX:Hid (lstV v lab (es.take (i+(j+1)))=max dd (dofL v lab p)):=by
          show _=_
          rw [←Nat.add_assoc,lstV_next (HEL.out j z hz),←HDD.out,←Ep.out]
         have hdp:=HDB.out p
         have DO:=hidden (HDO.out wr.drew (Bl.tr HBW.out (Below.drew (Below.refl _ _))) p hp2)
         obtain ⟨dx,Edx⟩:=exh (dofL v lab p)
         rw [←Edx.out] at HNX hdp DO
         have HMO:Hid (∀ x,Calls Try.prog 25 #[.int .i64 (dd:Int),.int .i64 (dx:Int)] x fun e w'=>e = .returned (.int .i64 ((max dd dx:Nat):Int))∧w'=x):=fun x=>by
          have:=L.most_doc x (dd:Int) (dx:Int)
          rw [show L.mostI (dd:Int) (dx:Int)=((max dd dx:Nat):Int) by unfold L.mostI;split <;> omega] at this
          exact this
         obtain ⟨mx,Emx⟩:=exh (max dd dx)
         have hmx:mx≤200:=by rw [Emx.out];omega
         rw [←Emx.out] at HNX HMO
         have e11:IntKind.i64.wrap ((j:Int)+1)=(j:Int)+1:=wrapI _ (by omega) (by omega)
         rw [←Esa1.out] at ea3
         subst ea3
         clear hz hz0 hz1 hp HDD cel
         go_wp2_with fail
         refine wp_region_noPanic ?_
         refine wp_region_held_drew (S:=fun wz=>wz.cell? ⟨gb,0,none⟩=some (.int .i64 (ni:Int))∧wz.cell? ⟨gb,1,none⟩=some (.slice (some ⟨b3,o3,none⟩) nl S.c1)∧wz.cell? ⟨gb,2,none⟩=some (.slice sa2 k S.c2)∧wz.cell? ⟨gb,3,none⟩=some (.slice sa3 i S.c3)∧wz.cell? ⟨b3,o3+j*2,none⟩=some (.int .i64 (p:Int))) (by kernel_rfl) (by exact ⟨f0,f1,f2,f3,cz0⟩) (fun hHeld=>?_)
         refine tk 0 ?_
         refine tk 1 ?_
         refine tk 2 ?_
         refine tk 3 ?_
         refine tk 4 ?_
         refine tk 5 ?_
         refine tk 6 ?_
         refine tk 7 ?_
         refine tk 8 ?_
         refine rd 9 fun K hK=>?_
         (try simp only [gA,gB,gC]);go_simp
         go_at_call 28
         refine DO.out.mono ?_
         rintro e w5 ⟨rfl,hb5⟩
         have HB5:Hid (Bl wr w5):=Bl.tr (Below.drew (Below.refl _ _)) hb5
         clear DO hb5
         go_wp2_with fail
         refine wo hK (HSX.out w5 HB5.out) fun _=>?_
         clear hK K
         refine rd 10 fun K hK=>?_
         (try simp only [gA,gB,gC]);go_simp
         go_at_call 25
         refine (HMO.out w5).mono ?_
         rintro e w6 ⟨rfl,rfl⟩
         go_wp2_with fail
         refine wo hK (HSX.out w6 HB5.out) fun _=>?_
         clear hK K
         refine tk 11 ?_
         refine wpAnyH_done (by kernel_rfl) ?_ _
         refine NoPanic.normal ?_
         have HBF:Hid (Bl wk w6):=Bl.tr HBW.out HB5.out
         clear f0 f1 f2 f3 cz0 HSX HMO hHeld
         go_wp2
         go_roundw
         case measure=>simp [intOf];omega
         case rel=>exact ⟨j+1,mx,by omega,by simp,rfl,hmx,HNX.out.symm,HBF.out⟩
        ·have hgj:¬ (j:Int)<(nl:Int):=by omega
         have HDE:Hid (dd=lstV v lab es):=by
          show _=_
          rw [HDD.out,List.take_of_length_le (by have:=HEE.out;omega)]
         have HBE:=hidden (HUP.out _ (HGX.out _ HBW.out))
         clear HDD f0 f2 f3
         go_wp2
         go_ret
         exact ⟨_,lab,ret_int (by rw [HDE.out,Ees.out]),HCF.out,HZF.out,HBE.out⟩
end Go.Proofs.Ytlaljeobdddegaa
