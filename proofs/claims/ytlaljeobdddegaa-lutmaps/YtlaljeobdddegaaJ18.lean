import Derived.Test.YtlaljeobdddegaaJ17
namespace Go.Proofs.Ytlaljeobdddegaa
open Go.RowKit
theorem own_nil0 {w:World} {C e sz n m c:Nat} {a:Option Addr} {xs:List Value} (h:w.ownsRow C e sz (.slice a m c) n xs):a=none→c=0:=by
 rcases h.2 with ⟨e,_⟩ | ⟨g,cap,cur,e,_⟩
 ·simp only [Value.slice.injEq] at e
  exact fun _=>e.2.2
 ·simp only [Value.slice.injEq] at e
  intro h0;rw [h0] at e;cases e.1
set_option maxRecDepth 100000 in
set_option maxHeartbeats 16000000 in
theorem kept_any (C B:Nat) (w:World) (sb gb g n ni:Nat) (S:GrS) (G:GrD) (hF:FineG G ni n) (nd nk:List Bool) (wt:List Nat) (wv:Value) (h:SiAt C w sb gb g n (nd,wt) wv) (hnd:nd=List.replicate (firstN G) true++nk) (hbx:BoxAt w gb S G) (hat:GrAt B w S G) (hB:B≤w.heap.size) :
  Calls Try.prog 48 #[.pointer (some ⟨sb,0,none⟩)] w fun e w'=>(∃ T,e = .returned (.agg (T.cells (cleanG (firstN G) nk G)))∧GrAt w'.heap.size w' T (cleanG (firstN G) nk G)∧NewAt w.heap.size T∧(T.a3=none→T.c3=0))∧Below w.heap.size w w':=by
 have FG0:Hid (∀ w',Below w.heap.size w w'→Calls Try.prog 30 #[.pointer (some ⟨gb,0,none⟩)] w' fun e w''=>e = .returned (.int .i64 (firstN G:Nat))∧∃ k,w''=w'.drewN k):=fun w' hw'=>by
  have:=firstGate_any w' gb S G (hbx.to hbx.lt hw') (by rw [hF.ins];omega) (by have:=hF.first;have:=hF.le;have:=hF.all;rw [hF.ins];omega) hat.ll
  rw [show G.first=((firstN G:Nat):Int) by unfold GrD.first;rw [hF.ins];have:=hF.first;omega] at this
  exact this
 have hnl:nd.length=n:=h.len
 have hf1:=hF.first
 have hf2:=hF.all
 have hf3:=hF.le
 have hf4:=hF.ll
 have hf5:=hF.lo
 obtain ⟨first,hfd⟩:∃ f,f=firstN G:=⟨_,rfl⟩
 have HFD:=hidden hfd
 rw [←hfd] at hf1 hf2 hnd FG0
 have hnkl:nk.length=G.ands.length:=by rw [hnd] at hnl;simp at hnl;omega
 have hfl:1+ni+G.lats.length≤first:=by omega
 have hfl':first≤1+ni+G.lats.length:=by omega
 have HND:=hidden hnd
 have HIN:=hidden hF.ins
 have HFI:=hidden hF
 have HSI:=hidden h
 have HBX:=hidden hbx
 have HAT:=hidden hat
 have hsb:=h.lt
 have hgb:=hbx.lt
 have hg:=(h.nd.lt g rfl).2
 have HTV:Hid (∀ v,toV first nk v≤60000∨n≤v):=by
  intro v
  left
  unfold toV
  split
  ·omega
  ·have:=List.count_le_length (a:=true) (l:=nk.take (v - first))
   have h2:(nk.take (v - first)).length≤nk.length:=by rw [List.length_take];omega
   omega
 have HTV':Hid (∀ v,toV first nk v≤60000):=by
  intro v
  unfold toV
  split
  ·omega
  ·have:=List.count_le_length (a:=true) (l:=nk.take (v - first))
   have h2:(nk.take (v - first)).length≤nk.length:=by rw [List.length_take];omega
   omega
 have HMG:Hid (∀ (i:Nat) (b:Bool),nd[i]?=some b→w.cell? ⟨g,i,none⟩=some (.bool b)):=by
  intro i b hi
  have:=(List.getElem?_eq_some_iff.1 hi).1
  rw [h.nd.cellAt i (by omega)]
  show (nd.map bV)[i]?=_
  rw [List.getElem?_map,hi];rfl
 obtain ⟨ib,hib,hzb,hsz3,hbb⟩:=info_int
 have HI:=hidden hib
 have HZ:=hidden hzb
 have HS:=hidden hsz3
 have HBY:=hidden hbb
 have c1:=h.c1
 clear hib hzb hsz3 hbb h hF hfd hbx hat hnd hf1 hnl
 have hmkb:ib.bytes*n≤281474976710656:=by rw [HBY.out];omega
 have hmx:n≤maxLen:=by simp only [maxLen];omega
 have hmf:∀ (fn:Fn) (first cap:Array Value) (w:World),(Instr.makeFunc fn first cap).run Try.prog w = .ok (.func fn first cap) w:=fun _ _ _ _=>rfl
 go_enter Try.func48,Try.ntmps48
 go_upto_region 1 with fail
 generalize hW0:World.alloc w _=w0
 obtain ⟨rs,hrs⟩:∃ x,x=w.heap.size:=⟨_,rfl⟩
 have HB0:Hid (Below w.heap.size w w0):=by rw [←hW0];exact (Below.refl _ _).alloc (Nat.le_refl _) _
 have HSZ0:Hid (w0.heap.size=w.heap.size+1):=by show _=_;rw [←hW0];simp
 have HQR0:Hid (∀ j,w0.cell? ⟨rs,j,none⟩=(#[.int .i64 0,.slice none 0 0,.slice none 0 0,.slice none 0 0]:Array Value)[j]?):=by
  rw [←hW0,hrs];intro j;exact cell_new rfl
 have HRF0:Hid (∀ j,w0.frozen? ⟨rs,j,none⟩=false):=by
  rw [←hW0,hrs];intro j;exact World.frozen?_alloc_at _ _ _ _ rfl
 rw [←hrs]
 have hrw:w.heap.size≤rs:=by omega
 have hrw':rs≤w.heap.size:=by omega
 have c1':=(HB0.out.cell (p:=⟨sb,1,none⟩) hsb).trans c1
 clear hW0 hrs c1
 have tok:True:=trivial
 go_upto_region 2 with (have _t:=tok;at_make;(refine wpList_make_full _ rfl (.tmp 19) (.tmp 19) 24 rfl w0.heap.size 3 ib _ 1 Try.underlying24 HI.out HZ.out HS.out .i64 .i64 (n:Int) (n:Int) n rfl rfl rfl rfl hmkb hmx (Nat.le_refl _) ?_;intro w1 hown1 hgrow1;have HOM:=hidden hown1;have HG1:=hidden hgrow1;clear tok hown1 hgrow1))
 obtain ⟨tg,htgd⟩:∃ x,x=w0.heap.size:=⟨_,rfl⟩
 have HM1:Hid (w1.ownsRow tg 3 1 (.slice (some ⟨tg,0,none⟩) n n) n ((List.replicate n 0).map iV)):=by
  have:=HOM.out
  rw [made_int,←htgd] at this
  exact this
 rw [←htgd]
 generalize hW2:World.alloc w1 _=w2
 obtain ⟨nb,hnbd⟩:∃ x,x=w1.heap.size:=⟨_,rfl⟩
 have HB2:Hid (Below w1.heap.size w1 w2):=by rw [←hW2];exact (Below.refl _ _).alloc (Nat.le_refl _) _
 have HB12:Hid (Below w0.heap.size w0 w2):=(none_below HG1.out).trans (HB2.out.mono HG1.out.size)
 have HBw2:Hid (Below w.heap.size w w2):=HB0.out.trans (HB12.out.mono HB0.out.size)
 have hs2:w2.heap.size=w1.heap.size+1:=by rw [←hW2];simp
 have htg1:=(HM1.out.lt tg rfl).2
 have q3:w2.cell? ⟨nb,0,none⟩=some (.slice (some ⟨tg,0,none⟩) n n):=by rw [←hW2,hnbd];exact cell_new rfl
 rw [←hnbd]
 have hr1:rs<tg:=by have:=HSZ0.out;omega
 have htn:tg<nb:=by omega
 have hn2:nb<w2.heap.size:=by omega
 have HM2:Hid (w2.ownsRow tg 3 1 (.slice (some ⟨tg,0,none⟩) n n) n ((List.replicate n 0).map iV)):=own_below HM1.out HB2.out
 have HQR2:Hid (∀ j,w2.cell? ⟨rs,j,none⟩=(#[.int .i64 0,.slice none 0 0,.slice none 0 0,.slice none 0 0]:Array Value)[j]?):=fun j=>(HB12.out.cell (p:=⟨rs,j,none⟩) (by show rs<_;omega)).trans (HQR0.out j)
 have HRF2:Hid (∀ j,w2.frozen? ⟨rs,j,none⟩=false):=fun j=>(HB12.out.frozen (p:=⟨rs,j,none⟩) (by show rs<_;omega)).trans (HRF0.out j)
 have c1'':=(HB12.out.cell (p:=⟨sb,1,none⟩) (by show sb<_;omega)).trans c1'
 clear hW2 hnbd htgd HOM HG1 HM1 HB2 HB12 HQR0 HRF0 c1' hs2 htg1 HB0 HI HZ HS HBY hmkb hmx HSZ0
 go_upto_block 0 with fail
 refine kpNums w2 first nk nd tg n g nb tg q3 hn2 (by omega) (by have:=HBw2.out.size;omega) (by omega) hf3 (by rw [HND.out];simp;omega) HND (show ∀ (i:Nat) (b:Bool),_ from fun i b hi=>(HBw2.out.cell (p:=⟨g,i,none⟩) hg).trans (HMG.out i b hi)) (show 0=toV first nk 0 from (toV_low (by omega)).symm) HTV' HM2 _ _ _ _ _ _ _ _ _ _ _ _ _ _ _ _ _ _ _ _ _ _ _ _ _ _ _ _ _ _ _ _ _ _ _ _ _ _ _ _ _ _ _ _ _ _ _ _ _ _ _ _ _ _ _ _ _ _ _ _ _ _ _ _ _ _ _ _ _ _ _ _ _ _ _ _ _ _ _ _ _ _ _ _ _ _ _ _ _ _ _ _ _ _ _ _ _ _ _ _ _ _ _ _ _ _ _ _ _ _ _ _ _ _ _ _ _ _ _ _ _ _ _ _ _ _ _ _ _ _ _ _ _ _ _ _ _ _ _ _ _ _ _ _ _ _ _ _ _ _ (hidden ?_)
 intro w3 v4 v5 v6 v26 v27 v28 v29 v30 v31 v32 v33 v34 v35 v36 v37 v38 hcut
 obtain ⟨HT3,HG3⟩:=hcut
 replace HT3:=hidden HT3
 replace HG3:=hidden HG3
 have hs3:=HG3.out.size
 have HB3:Hid (Below w.heap.size w w3):=HBw2.out.trans (below_grown HG3.out HBw2.out.size (fun k hk=>by have:=Option.some.inj hk;omega))
 have t0:w3.cell? ⟨sb,0,none⟩=some (.pointer (some ⟨gb,0,none⟩)):=(HB3.out.cell (p:=⟨sb,0,none⟩) hsb).trans HSI.out.c0
 have t1:w3.cell? ⟨gb,0,none⟩=some (.int .i64 (ni:Int)):=(HB3.out.cell (p:=⟨gb,0,none⟩) hgb).trans (by rw [←HIN.out];exact HBX.out.c0)
 have q3':=(HG3.out.cell_far ⟨nb,0,none⟩ hn2 (by simp;omega)).trans q3
 have HQR3:Hid (∀ j,w3.cell? ⟨rs,j,none⟩=(#[.int .i64 0,.slice none 0 0,.slice none 0 0,.slice none 0 0]:Array Value)[j]?):=fun j=>(HG3.out.cell_far ⟨rs,j,none⟩ (by show rs<_;omega) (by simp;omega)).trans (HQR2.out j)
 have HRF3:Hid (∀ j,w3.frozen? ⟨rs,j,none⟩=false):=fun j=>(HG3.out.frozen_far ⟨rs,j,none⟩ (by show rs<_;omega) (by simp;omega)).trans (HRF2.out j)
 have HTT3:Hid (∀ v,v<n→w3.cell? ⟨tg,v,none⟩=some (.int .i64 (toV first nk v:Nat))):=by
  intro v hv
  rw [HT3.out.cellAt v (by omega),List.getElem?_map,List.getElem?_map,List.getElem?_range hv];rfl
 have Q3:=hidden q3'
 clear HM2 HQR2 HRF2 HG3 HBw2 HT3 q3 q3' c1''
 go_upto_region 12 with fail
 generalize hV:World.alloc w3 _=V
 obtain ⟨hb,hhbd⟩:∃ x,x=w3.heap.size:=⟨_,rfl⟩
 have HVB:Hid (∀ j,V.cell? ⟨hb,j,none⟩=(#[.int .i64 (ni:Int),.slice none 0 0,.slice none 0 0,.slice none 0 0]:Array Value)[j]?):=by
  rw [←hV,hhbd];intro j;exact cell_new rfl
 have HVF:Hid (∀ j,V.frozen? ⟨hb,j,none⟩=false):=by
  rw [←hV,hhbd];intro j;exact World.frozen?_alloc_at _ _ _ _ rfl
 have HV3:Hid (Below w3.heap.size w3 V):=by rw [←hV];exact (Below.refl _ _).alloc (Nat.le_refl _) _
 have hhb:hb<V.heap.size:=by rw [←hV,hhbd];simp
 have hb3:w3.heap.size≤hb:=by omega
 rw [←hhbd]
 have hb3':hb≤w3.heap.size:=by omega
 clear hV hhbd t0 t1
 have HBV:Hid (Below w.heap.size w V):=HB3.out.trans (HV3.out.mono HB3.out.size)
 have hsV:=HV3.out.size
 have hswV:=HBV.out.size
 have HQV:Hid (∀ j,V.cell? ⟨rs,j,none⟩=(#[.int .i64 0,.slice none 0 0,.slice none 0 0,.slice none 0 0]:Array Value)[j]?):=fun j=>(HV3.out.cell (p:=⟨rs,j,none⟩) (by show rs<_;omega)).trans (HQR3.out j)
 have HRFV:Hid (∀ j,V.frozen? ⟨rs,j,none⟩=false):=fun j=>(HV3.out.frozen (p:=⟨rs,j,none⟩) (by show rs<_;omega)).trans (HRF3.out j)
 have HTTV:Hid (∀ v,v<n→V.cell? ⟨tg,v,none⟩=some (.int .i64 (toV first nk v:Nat))∧toV first nk v≤60000):=fun v hv=>⟨(HV3.out.cell (p:=⟨tg,v,none⟩) (by show tg<_;omega)).trans (HTT3.out v hv),HTV'.out v⟩
 have Q3V:Hid (V.cell? ⟨nb,0,none⟩=some (.slice (some ⟨tg,0,none⟩) n n)):=(HV3.out.cell (p:=⟨nb,0,none⟩) (by show nb<_;omega)).trans Q3.out
 have HATV:Hid (GrAt B V S G):=HAT.out.to (HBV.out.mono hB)
 have HSC:Hid (∀ j,V.cell? ⟨sb,j,none⟩=w.cell? ⟨sb,j,none⟩):=fun j=>HBV.out.cell (p:=⟨sb,j,none⟩) hsb
 have HGC:Hid (∀ j,V.cell? ⟨gb,j,none⟩=w.cell? ⟨gb,j,none⟩):=fun j=>HBV.out.cell (p:=⟨gb,j,none⟩) hgb
 have HMV:Hid (∀ (i:Nat) (b:Bool),nd[i]?=some b→V.cell? ⟨g,i,none⟩=some (.bool b)):=fun i b hi=>(HBV.out.cell (p:=⟨g,i,none⟩) hg).trans (HMG.out i b hi)
 have t0:V.cell? ⟨sb,0,none⟩=some (.pointer (some ⟨gb,0,none⟩)):=(HSC.out 0).trans HSI.out.c0
 have t1:V.cell? ⟨gb,1,none⟩=some (.slice S.a1 G.lats.length S.c1):=(HGC.out 1).trans HBX.out.c1
 clear HB3 HQR3 HRF3 HTT3 Q3 HV3
 go_upto_block 2 with fail
 refine kpLats V G first nk B n ni sb gb g nb hb tg n S.a1 S.c1 ((HSC.out 0).trans HSI.out.c0) ((HSC.out 1).trans HSI.out.c1) ((HGC.out 0).trans (by rw [←HIN.out];exact HBX.out.c0)) (by omega) (by omega) (by omega) (by omega) (by omega) (by omega) (by omega) (show ∀ i,i<G.lats.length→_ from fun i hi=>HMV.out _ _ (by rw [HND.out,List.getElem?_append_left (by rw [List.length_replicate];omega),List.getElem?_replicate,if_pos (by omega)])) Q3V.out (by omega) (by omega) HATV.out.l (by omega) (by omega) HFI.out.lats hf3 (by omega) hhb (by omega) (by omega) HTTV (by simpa using HVB.out 1) HVF.out _ _ _ _ _ _ _ _ _ _ _ _ _ _ _ _ _ _ _ _ _ _ _ _ _ _ _ _ _ _ _ _ _ _ _ _ _ _ _ _ _ _ _ _ _ _ _ _ _ _ _ _ _ _ _ _ _ _ _ _ _ _ _ _ _ _ _ _ _ _ _ _ _ _ _ _ _ _ _ _ _ _ _ _ _ _ _ _ _ _ _ _ _ _ _ _ _ _ _ _ _ _ _ _ _ _ _ _ _ _ _ _ _ _ _ _ _ _ _ _ _ _ _ _ _ _ _ _ _ _ _ _ _ _ _ _ _ _ _ _ _ _ _ _ _ _ _ _ _ (hidden ?_)
 intro w5 v9 v10 v56 v57 v58 v59 v60 v61 v62 v63 v64 v65 v66 v67 v68 v69 v70 v71 v72 v73 v74 v75 v76 v77 v78 v79 v80 v81 v82 v83 v84 v85 v86 v87 v88 v89 hcut
 obtain ⟨⟨u1,hu1,ho1⟩,HG5,HC5,HF5⟩:=hcut
 have HU1:=hidden hu1
 have HO1:=hidden ho1
 replace HG5:=hidden HG5
 replace HF5:=hidden HF5
 replace HC5:=hidden HC5
 have hs5:=HG5.out.size
 clear hu1 ho1 t0 t1
 have t0:w5.cell? ⟨sb,0,none⟩=some (.pointer (some ⟨gb,0,none⟩)):=(HG5.out.cell_far ⟨sb,0,none⟩ (by show sb<_;omega) (by simp;omega)).trans ((HSC.out 0).trans HSI.out.c0)
 have t1:w5.cell? ⟨gb,2,none⟩=some (.slice S.a2 G.ands.length S.c2):=(HG5.out.cell_far ⟨gb,2,none⟩ (by show gb<_;omega) (by simp;omega)).trans ((HGC.out 2).trans HBX.out.c2)
 have HBw5:Hid (Below w.heap.size w w5):=HBV.out.trans (below_grown HG5.out HBV.out.size (fun k hk=>by have:=Option.some.inj hk;omega))
 go_upto_block 4 with fail
 refine kpAnds w5 G first nk B n sb gb g nb hb tg n S.a2 S.c2 t0 ((HG5.out.cell_far ⟨sb,1,none⟩ (by show sb<_;omega) (by simp;omega)).trans ((HSC.out 1).trans HSI.out.c1)) (by omega) (by omega) (by omega) (by omega) hf2 hnkl (show ∀ (i:Nat) (b:Bool),_ from fun i b hi=>(HG5.out.cell_far ⟨g,first+i,none⟩ (by show g<_;omega) (by simp;omega)).trans (HMV.out _ _ (by rw [HND.out,List.getElem?_append_right (by simp)];simpa using hi))) (show ∀ w',w5.grownBy w' (some hb)→_ from fun w' hg'=>FG0.out w' (HBw5.out.trans (below_grown hg' HBw5.out.size (fun k hk=>by have:=Option.some.inj hk;omega)))) ((HG5.out.cell_far ⟨nb,0,none⟩ (by show nb<_;omega) (by simp;omega)).trans Q3V.out) (by omega) (by omega) (HATV.out.to (below_grown HG5.out (C:=B) (by omega) (fun k hk=>by have:=Option.some.inj hk;omega))).a (by omega) (by omega) (by rw [HFD.out];exact HFI.out.ands) hf3 (by omega) (by omega) (by omega) (show ∀ v,v<n→_ from fun v hv=>⟨(HG5.out.cell_far ⟨tg,v,none⟩ (by show tg<_;omega) (by simp;omega)).trans (HTTV.out v hv).1,(HTTV.out v hv).2⟩) ((HC5.out 2 (by decide)).trans (by simpa using HVB.out 2)) HF5.out _ _ _ _ _ _ _ _ _ _ _ _ _ _ _ _ _ _ _ _ _ _ _ _ _ _ _ _ _ _ _ _ _ _ _ _ _ _ _ _ _ _ _ _ _ _ _ _ _ _ _ _ _ _ _ _ _ _ _ _ _ _ _ _ _ _ _ _ _ _ _ _ _ _ _ _ _ _ _ _ _ _ _ _ _ _ _ _ _ _ _ _ _ _ _ _ _ _ _ _ _ _ _ _ _ _ _ _ _ _ _ _ _ _ _ _ _ _ _ _ _ _ _ _ _ _ _ _ _ _ _ _ _ _ _ _ _ _ _ _ _ _ _ _ _ _ _ _ _ (hidden ?_)
 intro w6 v11 v12 v98 v99 v100 v101 v102 v103 v104 v105 v106 v107 v108 v109 v110 v111 v112 v113 v114 v115 v116 v117 v118 v119 v120 v121 v122 v123 v124 v125 v126 v127 v128 v129 v130 hcut
 obtain ⟨⟨u2,hu2,ho2⟩,HG6,HC6,HF6⟩:=hcut
 have HU2:=hidden hu2
 have HO2:=hidden ho2
 replace HG6:=hidden HG6
 replace HF6:=hidden HF6
 replace HC6:=hidden HC6
 have hs6:=HG6.out.size
 have HG56:Hid (V.grownBy w6 (some hb)):=grown_trans HG5.out HG6.out
 clear hu2 ho2 t0 t1
 have t0:w6.cell? ⟨sb,0,none⟩=some (.pointer (some ⟨gb,0,none⟩)):=(HG56.out.cell_far ⟨sb,0,none⟩ (by show sb<_;omega) (by simp;omega)).trans ((HSC.out 0).trans HSI.out.c0)
 have t1:w6.cell? ⟨gb,3,none⟩=some (.slice S.a3 G.outs.length S.c3):=(HG56.out.cell_far ⟨gb,3,none⟩ (by show gb<_;omega) (by simp;omega)).trans ((HGC.out 3).trans HBX.out.c3)
 go_upto_block 6 with fail
 refine kpOuts w6 G first nk B n nb hb tg n S.a3 S.c3 ((HG56.out.cell_far ⟨nb,0,none⟩ (by show nb<_;omega) (by simp;omega)).trans Q3V.out) (by omega) (by omega) (HATV.out.to (below_grown HG56.out (C:=B) (by omega) (fun k hk=>by have:=Option.some.inj hk;omega))).o (by omega) (by omega) HFI.out.outs hf3 hf5 (by omega) (by omega) (by omega) (show ∀ v,v<n→_ from fun v hv=>⟨(HG56.out.cell_far ⟨tg,v,none⟩ (by show tg<_;omega) (by simp;omega)).trans (HTTV.out v hv).1,(HTTV.out v hv).2⟩) ((HC6.out 3 (by decide)).trans ((HC5.out 3 (by decide)).trans (by simpa using HVB.out 3))) HF6.out _ _ _ _ _ _ _ _ _ _ _ _ _ _ _ _ _ _ _ _ _ _ _ _ _ _ _ _ _ _ _ _ _ _ _ _ _ _ _ _ _ _ _ _ _ _ _ _ _ _ _ _ _ _ _ _ _ _ _ _ _ _ _ _ _ _ _ _ _ _ _ _ _ _ _ _ _ _ _ _ _ _ _ _ _ _ _ _ _ _ _ _ _ _ _ _ _ _ _ _ _ _ _ _ _ _ _ _ _ _ _ _ _ _ _ _ _ _ _ _ _ _ _ _ _ _ _ _ _ _ _ _ _ _ _ _ _ _ _ _ _ _ _ _ _ _ _ _ _ _ (hidden ?_)
 intro w8 v14 v139 v140 v141 v142 v143 v144 v145 v146 v147 v148 v149 v150 v151 hcut
 obtain ⟨⟨u3,hu3,ho3⟩,HG8,HC8,HF8'⟩:=hcut
 replace HG8:=hidden HG8
 replace HC8:=hidden HC8
 replace HF8':=hidden HF8'
 have HG68:Hid (V.grownBy w8 (some hb)):=grown_trans HG56.out HG8.out
 have hs8:=HG8.out.size
 have HO1':Hid (w8.ownsRow V.heap.size 45 2 u1 G.lats.length (G.lats.flatMap (latC first nk))):=(HO1.out.kept HG6.out (own_not HO1.out (by omega))).kept HG8.out (own_not HO1.out (by omega))
 have HO2':Hid (w8.ownsRow w5.heap.size 46 2 u2 (keptK first nk G.ands (G.ands.length)).length ((keptK first nk G.ands (G.ands.length)).flatMap AndD.cells)):=HO2.out.kept HG8.out (own_not HO2.out (by omega))
 have HO3:=hidden ho3
 have b0:w8.cell? ⟨hb,0,none⟩=some (.int .i64 (ni:Int)):=(HC8.out 0 (by decide)).trans ((HC6.out 0 (by decide)).trans ((HC5.out 0 (by decide)).trans (by simpa using HVB.out 0)))
 have b1:w8.cell? ⟨hb,1,none⟩=some u1:=(HC8.out 1 (by decide)).trans ((HC6.out 1 (by decide)).trans HU1.out)
 have b2:w8.cell? ⟨hb,2,none⟩=some u2:=(HC8.out 2 (by decide)).trans HU2.out
 have b3:w8.cell? ⟨hb,3,none⟩=some u3:=hu3
 have HR8:Hid (∀ j,w8.cell? ⟨rs,j,none⟩=(#[.int .i64 0,.slice none 0 0,.slice none 0 0,.slice none 0 0]:Array Value)[j]?):=fun j=>(HG68.out.cell_far ⟨rs,j,none⟩ (by show rs<_;omega) (by simp;omega)).trans (HQV.out j)
 have HF8:Hid (∀ j,w8.frozen? ⟨rs,j,none⟩=false):=fun j=>(HG68.out.frozen_far ⟨rs,j,none⟩ (by show rs<_;omega) (by simp;omega)).trans (HRFV.out j)
 have r0:=HR8.out 0
 have r1:=HR8.out 1
 have r2:=HR8.out 2
 have r3:=HR8.out 3
 have f0:=HF8.out 0
 have f1:=HF8.out 1
 have f2:=HF8.out 2
 have f3:=HF8.out 3
 simp at r0 r1 r2 r3
 have HB8:Hid (Below w.heap.size w w8):=HBV.out.trans (below_grown HG68.out HBV.out.size (fun k hk=>by have:=Option.some.inj hk;omega))
 clear hu3 ho3 HG68 HG56 HC8 HC6 HC5 HO1 HO2 HU1 HU2 HVB HQV HRFV HG8 HG6 HG5 HF6 HF5 HTTV HATV HVF HTV HTV' HBV t0 t1 HMV HMG HSC HGC Q3V HSI HBX HAT FG0
 obtain ⟨a1,c1,hx1⟩:=own_form HO1'.out
 obtain ⟨a2,c2,hx2⟩:=own_form HO2'.out
 obtain ⟨a3,c3,hx3⟩:=own_form HO3.out
 subst hx1 hx2 hx3
 go_wp2
 have hrl:rs<V.heap.size:=by omega
 obtain ⟨z0,z1,z2,z3⟩:=set4 r0 r1 r2 r3 (Value.int IntKind.i64 (ni:Int)) (Value.slice a1 G.lats.length c1) (Value.slice a2 (keptK first nk G.ands G.ands.length).length c2) (Value.slice a3 G.outs.length c3)
 clear HF8 HR8 f0 f1 f2 f3 r0 r1 r2 r3 b0 b1 b2 b3
 have HG9:Hid (w8.grownBy ((((w8.setCell ⟨rs,0,none⟩ (Value.int IntKind.i64 (ni:Int))).setCell ⟨rs,1,none⟩ (Value.slice a1 G.lats.length c1)).setCell ⟨rs,2,none⟩ (Value.slice a2 (keptK first nk G.ands G.ands.length).length c2)).setCell ⟨rs,3,none⟩ (Value.slice a3 G.outs.length c3)) (some rs)):=grown_trans (grown_trans (grown_trans (grown_set _ _ _ _) (grown_set _ _ _ _)) (grown_set _ _ _ _)) (grown_set _ _ _ _)
 generalize World.setCell _ (⟨rs,3,none⟩:Addr) _=w9 at HG9 z0 z1 z2 z3 ⊢
 refine bodyPost_ret (v:=.agg #[.int .i64 (ni:Int),.slice a1 G.lats.length c1,.slice a2 (keptK first nk G.ands G.ands.length).length c2,.slice a3 G.outs.length c3]) (by simp [results,Try.results48,go_sem, *]) rfl ?_
 have hs9:=HG9.out.size
 have hP1:=HO1'.out.kept HG9.out (own_not HO1'.out (by omega))
 have hP2:=HO2'.out.kept HG9.out (own_not HO2'.out (by omega))
 have hP3:=HO3.out.kept HG9.out (own_not HO3.out (by omega))
 have hkA:keptK first nk G.ands G.ands.length=keptA first nk G.ands:=keptK_all _ _ _ hnkl
 rw [hkA] at hP2
 have e1:G.lats.flatMap (latC first nk)=((cleanG first nk G).lats.map LatD.cells).flatten:=by
  show _=((G.lats.map _).map LatD.cells).flatten
  rw [List.map_map,List.flatMap_def];rfl
 have e2:(keptA first nk G.ands).flatMap AndD.cells=((cleanG first nk G).ands.map AndD.cells).flatten:=by
  rw [List.flatMap_def];rfl
 rw [e1] at hP1
 rw [e2] at hP2
 obtain ⟨a1',c1',he1,hR1⟩:=own_row hP1 (by intro l hl;obtain ⟨d,_,rfl⟩:=List.mem_map.1 hl;rfl) (by decide)
 obtain ⟨a2',c2',he2,hR2⟩:=own_row hP2 (by intro l hl;obtain ⟨d,_,rfl⟩:=List.mem_map.1 hl;rfl) (by decide)
 obtain ⟨_,a3',c3',he3,hR3⟩:=ownRow hP3
 simp only [Value.slice.injEq,true_and] at he1 he2 he3
 obtain ⟨rfl,rfl⟩:=he1
 obtain ⟨rfl,rfl⟩:=he2
 obtain ⟨rfl,rfl⟩:=he3
 have hlA:(keptA first nk G.ands).length≤G.ands.length:=by
  rw [←hkA,keptK_len _ _ _ _ hnkl]
  have:=List.count_le_length (a:=true) (l:=nk.take G.ands.length)
  have h2:(nk.take G.ands.length).length≤nk.length:=by rw [List.length_take];omega
  omega
 have hNw:NewAt w.heap.size ⟨a1,c1,a2,c2,a3,c3⟩:=⟨own_new hP1 (by omega),own_new hP2 (by omega),own_new hP3 (by omega)⟩
 refine ⟨⟨⟨a1,c1,a2,c2,a3,c3⟩,?_,?_,hNw,own_nil0 hP3⟩,?_⟩
 ·rw [←HFD.out,hkA]
  unfold GrS.cells cleanG
  simp only [List.length_map,HIN.out]
 ·rw [←HFD.out]
  refine ⟨hR1,hR2,hR3,?_,?_,?_⟩
  ·show (G.lats.map _).length<big
   rw [List.length_map];unfold big;omega
  ·show (keptA first nk G.ands).length<big
   unfold big;omega
  ·show (G.outs.map _).length<big
   rw [List.length_map];unfold big;omega
 ·exact HB8.out.trans (below_grown HG9.out HB8.out.size (fun k hk=>by have:=Option.some.inj hk;omega))
end Go.Proofs.Ytlaljeobdddegaa
