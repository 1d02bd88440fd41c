import Derived.Test.YtlaljeobdddegaaJ19
namespace Go.Proofs.Ytlaljeobdddegaa
open Go.RowKit
theorem set4_grown (w:World) (b:Nat) (x0 x1 x2 x3:Value):w.grownBy ((((w.setCell ⟨b,0,none⟩ x0).setCell ⟨b,1,none⟩ x1).setCell ⟨b,2,none⟩ x2).setCell ⟨b,3,none⟩ x3) (some b) :=
 grown_trans (grown_trans (grown_trans (grown_set _ _ _ _) (grown_set _ _ _ _)) (grown_set _ _ _ _)) (grown_set _ _ _ _)
set_option maxRecDepth 100000 in
set_option maxHeartbeats 16000000 in
theorem cleaned_any (B:Nat) (w:World) (gb:Nat) (S:GrS) (G:GrD) (ni n:Nat) (hF:FineG G ni n) (hbx:BoxAt w gb S G) (hat:GrAt B w S G) (hB:B≤w.heap.size) :
  Calls Try.prog 32 #[.pointer (some ⟨gb,0,none⟩),.bool true] w fun e w'=>(∃ T,e = .returned (.agg (T.cells (cleanOf G)))∧GrAt w'.heap.size w' T (cleanOf G)∧NewAt w.heap.size T∧(T.a3=none→T.c3=0))∧Below w.heap.size w w':=by
 have VA:Hid (∀ w',Below w.heap.size w w'→Calls Try.prog 29 #[.pointer (some ⟨gb,0,none⟩)] w' fun e w''=>e = .returned (.int .i64 (n:Int))∧∃ k,w''=w'.drewN k):=fun w' hw'=>by
  have:=variables_any w' gb S G (hbx.to hbx.lt hw') (by rw [hF.ins];omega) (by have:=hF.first;have:=hF.le;have:=hF.all;rw [hF.ins];omega) hat.ll hat.la
  rw [show G.vars=(n:Int) by unfold GrD.vars GrD.first;rw [hF.ins];have:=hF.first;have:=hF.all;omega] at this
  exact this
 obtain ⟨ib,hib,hzb,hsb3,hbb⟩:=info_bool
 have HI:=hidden hib
 have HZ:=hidden hzb
 have HS:=hidden hsb3
 have HBY:=hidden hbb
 have hf1:=hF.first
 have hf2:=hF.all
 have hf3:=hF.le
 have hf4:=hF.ll
 have hf5:=hF.lo
 obtain ⟨first,hfd⟩:∃ f,f=firstN G:=⟨_,rfl⟩
 have HFD:=hidden hfd
 rw [←hfd] at hf1 hf2
 have hfl:1+ni+G.lats.length≤first:=by omega
 have hfl':first≤1+ni+G.lats.length:=by omega
 have HIN:=hidden hF.ins
 have HFI:=hidden hF
 have HBX:=hidden hbx
 have HAT:=hidden hat
 have hgb:=hbx.lt
 clear hib hzb hsb3 hbb hF hfd hbx hat hf1
 have hmkb:ib.bytes*n≤281474976710656:=by rw [HBY.out];omega
 have hmx:n≤maxLen:=by simp only [maxLen];omega
 go_enter Try.func32,Try.ntmps32
 go_upto_region 1 with fail
 generalize hW0:World.alloc w _=w0
 obtain ⟨rs,hrs⟩:∃ x,x=w.heap.size:=⟨_,rfl⟩
 have HB0:Hid (Below w.heap.size w w0):=by rw [←hW0];exact (Below.refl _ _).alloc (Nat.le_refl _) _
 have HSZ0:Hid (w0.heap.size=w.heap.size+1):=by show _=_;rw [←hW0];simp
 have HQR0:Hid (∀ j,w0.cell? ⟨rs,j,none⟩=(#[.int .i64 0,.slice none 0 0,.slice none 0 0,.slice none 0 0]:Array Value)[j]?):=by
  rw [←hW0,hrs];intro j;exact cell_new rfl
 have HRF0:Hid (∀ j,w0.frozen? ⟨rs,j,none⟩=false):=by
  rw [←hW0,hrs];intro j;exact World.frozen?_alloc_at _ _ _ _ rfl
 rw [←hrs]
 have hrw:w.heap.size≤rs:=by omega
 have hrw':rs≤w.heap.size:=by omega
 clear hW0 hrs
 go_wp2_with fail
 go_at_call 29
 refine (VA.out _ HB0.out).mono ?_
 rintro e w1 ⟨rfl,dk,hw1⟩
 have HB1:Hid (Below w0.heap.size w0 w1):=by rw [hw1];exact Below.drewN (Below.refl _ _) _
 have hs1:w0.heap.size≤w1.heap.size:=HB1.out.size
 have hs1':w1.heap.size≤w0.heap.size:=by rw [hw1];exact Nat.le_refl _
 clear hw1
 have tok:True:=trivial
 go_upto_region 2 with (have _t:=tok;at_make;(refine wpList_make_full _ rfl (.tmp 14) (.tmp 14) 30 rfl w1.heap.size 4 ib _ 1 Try.underlying30 HI.out HZ.out HS.out .i64 .i64 (n:Int) (n:Int) n rfl rfl rfl rfl hmkb hmx (Nat.le_refl _) ?_;intro w2 hown1 hgrow1;have HOM:=hidden hown1;have HG2:=hidden hgrow1;clear tok hown1 hgrow1))
 obtain ⟨C,hCd⟩:∃ x,x=w1.heap.size:=⟨_,rfl⟩
 have HM2:Hid (w2.ownsRow C 4 1 (.slice (some ⟨C,0,none⟩) n n) n ((List.replicate n false).map bV)):=by
  have:=HOM.out
  rw [made_false,←hCd] at this
  exact this
 rw [←hCd]
 generalize hW3:World.alloc w2 _=w3
 obtain ⟨sb,hsbd⟩:∃ x,x=w2.heap.size:=⟨_,rfl⟩
 have HB3:Hid (Below w2.heap.size w2 w3):=by rw [←hW3];exact (Below.refl _ _).alloc (Nat.le_refl _) _
 have HB13:Hid (Below w1.heap.size w1 w3):=(none_below HG2.out).trans (HB3.out.mono HG2.out.size)
 have hgl:=(HM2.out.lt C rfl).2
 have hs3:w3.heap.size=w2.heap.size+1:=by rw [←hW3];simp
 have HSC:Hid (∀ j,w3.cell? ⟨sb,j,none⟩=(#[.pointer (some ⟨gb,0,none⟩),.slice (some ⟨C,0,none⟩) n n,.slice none 0 0]:Array Value)[j]?):=by
  rw [←hW3,hsbd];intro j;exact cell_new rfl
 have HSF:Hid (∀ j,w3.frozen? ⟨sb,j,none⟩=false):=by
  rw [←hW3,hsbd];intro j;exact World.frozen?_alloc_at _ _ _ _ rfl
 rw [←hsbd]
 have hCs:C<sb:=by omega
 have hs3':sb<w3.heap.size:=by omega
 have hC3:C≤w3.heap.size:=by omega
 have hrC:rs<C:=by have:=HSZ0.out;omega
 have hBC:B≤C:=by omega
 have hgC:gb<C:=by omega
 have HSI:Hid (SiAt C w3 sb gb C n (List.replicate n false,[]) (.slice none 0 0)) :=
  ⟨by simpa using HSC.out 0,by simpa using HSC.out 1,by simpa using HSC.out 2,own_below HM2.out HB3.out,World.ownsRow_nil _ _ _ _,HSF.out,by omega,hs3',by omega,by simp [Value.ownBlock],by simp [Value.ownBlock]⟩
 have HQR3:Hid (∀ j,w3.cell? ⟨rs,j,none⟩=(#[.int .i64 0,.slice none 0 0,.slice none 0 0,.slice none 0 0]:Array Value)[j]?):=fun j=>(HB13.out.cell (p:=⟨rs,j,none⟩) (by show rs<_;omega)).trans ((HB1.out.cell (p:=⟨rs,j,none⟩) (by show rs<_;have:=HSZ0.out;omega)).trans (HQR0.out j))
 have HRF3:Hid (∀ j,w3.frozen? ⟨rs,j,none⟩=false):=fun j=>(HB13.out.frozen (p:=⟨rs,j,none⟩) (by show rs<_;omega)).trans ((HB1.out.frozen (p:=⟨rs,j,none⟩) (by show rs<_;have:=HSZ0.out;omega)).trans (HRF0.out j))
 have HBw3:Hid (Below w.heap.size w w3):=(HB0.out.trans (HB1.out.mono HB0.out.size)).trans (HB13.out.mono (by have:=HB0.out.size;omega))
 have q0:w3.cell? ⟨gb,0,none⟩=some (.int .i64 (ni:Int)):=(HBw3.out.cell (p:=⟨gb,0,none⟩) hgb).trans (by rw [←HIN.out];exact HBX.out.c0)
 clear hW3 hsbd hCd HOM HG2 HM2 HB3 HB13 HSC HSF HQR0 HRF0 HB0 HB1 HI HZ HS HBY hmkb hmx HSZ0 VA hs1 hs1' hgl hs3
 have eI:IntKind.i64.wrap ((1:Int)+(ni:Int))=(1:Int)+(ni:Int):=wrapI _ (by omega) (by omega)
 go_upto_block 0 with fail
 refine clIns w3 C sb gb C n ni _ HSI hC3 hf3 (by omega) _ _ _ _ _ _ _ _ _ _ _ _ _ _ _ _ _ _ _ _ _ _ _ _ _ _ _ _ _ _ _ _ _ _ _ _ _ _ _ _ _ _ _ _ _ _ _ _ _ _ _ _ _ _ _ _ _ _ _ _ _ _ _ _ _ _ _ _ _ _ _ _ _ _ _ _ _ _ _ _ _ (hidden ?_)
 intro w4 v6 v22 v23 v24 v25 v26 v27 v28 v29 hcut
 obtain ⟨HS4,HB4⟩:=hcut
 replace HS4:=hidden HS4
 replace HB4:=hidden HB4
 have hs4:=HB4.out.size
 have g1:w4.cell? ⟨gb,1,none⟩=some (.slice S.a1 G.lats.length S.c1):=(HB4.out.cell (p:=⟨gb,1,none⟩) hgC).trans ((HBw3.out.cell (p:=⟨gb,1,none⟩) hgb).trans HBX.out.c1)
 clear HSI
 go_upto_block 2 with fail
 refine clLats w4 C sb gb C n ni G.lats.length _ HS4 (by omega) hf3 (by omega) ((HB4.out.cell (p:=⟨gb,0,none⟩) hgC).trans q0) hgC _ _ _ _ _ _ _ _ _ _ _ _ _ _ _ _ _ _ _ _ _ _ _ _ _ _ _ _ _ _ _ _ _ _ _ _ _ _ _ _ _ _ _ _ _ _ _ _ _ _ _ _ _ _ _ _ _ _ _ _ _ _ _ _ _ _ _ _ _ _ _ _ _ _ _ _ _ _ _ _ (hidden ?_)
 intro w5 v7 v36 v37 v38 v39 v40 v41 v42 v43 v44 v45 v46 v47 v48 hcut
 obtain ⟨⟨wv5,HS5⟩,HB5⟩:=hcut
 replace HS5:=hidden HS5
 replace HB5:=hidden HB5
 have hs5:=HB5.out.size
 have HB35:Hid (Below C w3 w5):=HB4.out.trans HB5.out
 have HGD:Hid (Good G ni n [] (begunC ni G.lats.length (n - (1+ni) - G.lats.length))):=by
  have:=Good.begun HFI.out
  rw [←HFD.out,show n - first=n - (1+ni) - G.lats.length by omega] at this
  exact this
 have HATw:Hid (GrAt B w3 S G):=HAT.out.to (HBw3.out.mono hB)
 have g3:w5.cell? ⟨gb,3,none⟩=some (.slice S.a3 G.outs.length S.c3):=(HB35.out.cell (p:=⟨gb,3,none⟩) hgC).trans ((HBw3.out.cell (p:=⟨gb,3,none⟩) hgb).trans HBX.out.c3)
 clear HS4 g1 HB4 HB5
 go_upto_block 4 with fail
 refine clOuts w5 G C B sb gb C n ni S.a3 S.c3 _ wv5 HS5 HGD (by omega) hf3 (HATw.out.to (HB35.out.mono hBC)).o hBC hf5 HFI.out.outs _ _ _ _ _ _ _ _ _ _ _ _ _ _ _ _ _ _ _ _ _ _ _ _ _ _ _ _ _ _ _ _ _ _ _ _ _ _ _ _ _ _ _ _ _ _ _ _ _ _ _ _ _ _ _ _ _ _ _ _ _ _ _ _ _ _ _ _ _ _ _ _ _ _ _ _ _ _ _ _ (hidden ?_)
 intro w6 v9 v54 v55 v56 v57 v58 v59 v60 hcut
 obtain ⟨⟨s6,wv6,HS6,HG6,HR6⟩,HB6⟩:=hcut
 replace HS6:=hidden HS6
 replace HG6:=hidden HG6
 replace HR6:=hidden HR6
 replace HB6:=hidden HB6
 have hs6:=HB6.out.size
 have HB36:Hid (Below C w3 w6):=HB35.out.trans HB6.out
 have HBXw:Hid (BoxAt w3 gb S G):=HBX.out.to hgb HBw3.out
 clear HS5 HGD g3
 go_upto_block 6 with fail
 refine clWork w6 G S C B sb gb C n ni HFI s6 wv6 HS6 HG6 HR6 (by omega) hf3 (HBXw.out.to hgC HB36.out) hgC (HATw.out.to (HB36.out.mono hBC)) hBC _ _ _ _ _ _ _ _ _ _ _ _ _ _ _ _ _ _ _ _ _ _ _ _ _ _ _ _ _ _ _ _ _ _ _ _ _ _ _ _ _ _ _ _ _ _ _ _ _ _ _ _ _ _ _ _ _ _ _ _ _ _ _ _ _ _ _ _ _ _ _ _ _ _ _ _ _ _ _ _ _ _ _ (hidden ?_)
 intro w7 v10 v11 v61 v62 v63 v64 v65 v66 v67 v68 v69 v70 v71 v72 v73 v74 v75 v76 v77 v78 v79 v80 hcut
 obtain ⟨⟨nd,wv7,HS7,HG7,HR7⟩,HB7⟩:=hcut
 have hND:nd=List.replicate (firstN G) true++nkOf G:=found_nk HFI.out HG7 HR7
 replace HS7:=hidden HS7
 replace HB7:=hidden HB7
 have hs7:=HB7.out.size
 have HB37:Hid (Below C w3 w7):=HB36.out.trans HB7.out
 have KE:Hid (Calls Try.prog 48 #[.pointer (some ⟨sb,0,none⟩)] w7 fun e w'=>(∃ T,e = .returned (.agg (T.cells (cleanOf G)))∧GrAt w'.heap.size w' T (cleanOf G)∧NewAt w7.heap.size T∧(T.a3=none→T.c3=0))∧Below w7.heap.size w7 w'):=kept_any C B w7 sb gb C n ni S G HFI.out nd (nkOf G) [] wv7 HS7.out hND (HBXw.out.to hgC HB37.out) (HATw.out.to (HB37.out.mono hBC)) (by omega)
 have HR1:Hid (∀ j,w7.cell? ⟨rs,j,none⟩=(#[.int .i64 0,.slice none 0 0,.slice none 0 0,.slice none 0 0]:Array Value)[j]?):=fun j=>(HB37.out.cell (p:=⟨rs,j,none⟩) hrC).trans (HQR3.out j)
 have HF1:Hid (∀ j,w7.frozen? ⟨rs,j,none⟩=false):=fun j=>(HB37.out.frozen (p:=⟨rs,j,none⟩) hrC).trans (HRF3.out j)
 have HBw1:Hid (Below w.heap.size w w7):=HBw3.out.trans (HB37.out.mono (by omega))
 have hrl:rs<w7.heap.size:=by omega
 clear HG7 HR7 hND HS7 HB7 HB36 HB35 HB37 HQR3 HRF3 HS6 HG6 HR6 HB6 HBw3 q0
 go_wp2_with fail
 go_at_call 48
 refine KE.out.mono ?_
 rintro e w8 ⟨⟨T,rfl,hat8,hnw,hnil3⟩,hb8⟩
 have HAT8:=hidden hat8
 have HNW:=hidden hnw
 have HNIL3:=hidden hnil3
 have HB8:=hidden hb8
 have hs8:=hb8.size
 have r0:=(hb8.cell (p:=⟨rs,0,none⟩) hrl).trans (HR1.out 0)
 have r1:=(hb8.cell (p:=⟨rs,1,none⟩) hrl).trans (HR1.out 1)
 have r2:=(hb8.cell (p:=⟨rs,2,none⟩) hrl).trans (HR1.out 2)
 have r3:=(hb8.cell (p:=⟨rs,3,none⟩) hrl).trans (HR1.out 3)
 have f0:=(hb8.frozen (p:=⟨rs,0,none⟩) hrl).trans (HF1.out 0)
 have f1:=(hb8.frozen (p:=⟨rs,1,none⟩) hrl).trans (HF1.out 1)
 have f2:=(hb8.frozen (p:=⟨rs,2,none⟩) hrl).trans (HF1.out 2)
 have f3:=(hb8.frozen (p:=⟨rs,3,none⟩) hrl).trans (HF1.out 3)
 simp at r0 r1 r2 r3
 clear hat8 hnw hb8 hnil3
 unfold GrS.cells
 generalize hGC:cleanOf G=H at *
 have HHC:=hidden hGC
 clear hGC
 go_wp2
 obtain ⟨z0,z1,z2,z3⟩:=set4 r0 r1 r2 r3 (.int .i64 H.ins) (.slice T.a1 H.lats.length T.c1) (.slice T.a2 H.ands.length T.c2) (.slice T.a3 H.outs.length T.c3)
 have HG9:=hidden (set4_grown w8 rs (.int .i64 H.ins) (.slice T.a1 H.lats.length T.c1) (.slice T.a2 H.ands.length T.c2) (.slice T.a3 H.outs.length T.c3))
 generalize World.setCell _ (⟨rs,3,none⟩:Addr) _=w9 at HG9 z0 z1 z2 z3 ⊢
 clear r0 r1 r2 r3 f0 f1 f2 f3
 refine bodyPost_ret (v:=.agg #[.int .i64 H.ins,.slice T.a1 H.lats.length T.c1,.slice T.a2 H.ands.length T.c2,.slice T.a3 H.outs.length T.c3]) (by simp [results,Try.results32,go_sem, *]) rfl ?_
 refine ⟨⟨T,?_,?_,?_,HNIL3.out⟩,?_⟩
 ·rw [HHC.out];try rfl
 ·rw [HHC.out];exact HAT8.out.set HNW.out hrl HG9.out
 ·have:=HBw1.out.size
  exact ⟨fun b o e=>Nat.le_trans this (HNW.out.1 b o e),fun b o e=>Nat.le_trans this (HNW.out.2.1 b o e),fun b o e=>Nat.le_trans this (HNW.out.2.2 b o e)⟩
 ·exact (HBw1.out.trans (HB8.out.mono HBw1.out.size)).trans (below_grown HG9.out (by have:=HBw1.out.size;omega) (fun k hk=>by have:=Option.some.inj hk;omega))
set_option maxRecDepth 100000 in
set_option maxHeartbeats 8000000 in
theorem clean_any (B:Nat) (w:World) (S:GrS) (G:GrD) (h:GrAt B w S G) (hB:B≤w.heap.size) (hok:GrOk G=true) :
  Calls Try.prog 18 #[.agg (S.cells G)] w fun e w'=>(∃ T,e = .returned (.agg (T.cells (cleanOf G)))∧GrAt w'.heap.size w' T (cleanOf G)∧(T.a3=none→T.c3=0)∧NewAt w.heap.size T)∧Below w.heap.size w w':=by
 obtain ⟨ni,n,hF⟩:=fine_of hok
 have VL:Hid (∀ w',Below w.heap.size w w'→Calls Try.prog 17 #[.agg (S.cells G)] w' fun e w''=>e = .returned (.bool true)∧Below w'.heap.size w' w''):=fun w' hw'=>by
  have:=valid_any B w' S G (h.to (hw'.mono hB)) (Nat.le_trans hB hw'.size)
  rw [hok] at this
  exact this
 have HF:=hidden hF
 have HAT:=hidden h
 clear h hF hok
 unfold GrS.cells at VL ⊢
 go_enter Try.func18,Try.ntmps18
 go_upto_region 1 with fail
 generalize hW0:World.alloc (World.alloc w _) _=w0
 have HB0:Hid (Below w.heap.size w w0):=by rw [←hW0];exact ((Below.refl _ _).alloc (Nat.le_refl _) _).alloc (by simp) _
 have HSZ0:Hid (w0.heap.size=w.heap.size+2):=by show _=_;rw [←hW0];simp
 have HQ:Hid (∀ j,w0.cell? ⟨w.heap.size,j,none⟩=(#[.int .i64 G.ins,.slice S.a1 G.lats.length S.c1,.slice S.a2 G.ands.length S.c2,.slice S.a3 G.outs.length S.c3]:Array Value)[j]?):=by
  rw [←hW0];intro j
  rw [World.cell?_alloc_lt _ _ _ (by simp)];exact cell_new rfl
 have HQR:Hid (∀ j,w0.cell? ⟨w.heap.size+1,j,none⟩=(#[.int .i64 0,.slice none 0 0,.slice none 0 0,.slice none 0 0]:Array Value)[j]?):=by
  rw [←hW0];intro j
  exact cell_new (by simp)
 have HRF:Hid (∀ j,w0.frozen? ⟨w.heap.size+1,j,none⟩=false):=by
  rw [←hW0];intro j;exact World.frozen?_alloc_at _ _ _ _ (by simp)
 have p0:=HQ.out 0
 have p1:=HQ.out 1
 have p2:=HQ.out 2
 have p3:=HQ.out 3
 simp at p0 p1 p2 p3
 clear hW0
 go_wp2_with fail
 go_at_call 17
 refine (VL.out _ HB0.out).mono ?_
 rintro e w1 ⟨rfl,hb1⟩
 have HB1:=hidden hb1
 have hs1:=hb1.size
 have HSZ1:Hid (w.heap.size+2≤w1.heap.size):=by have:=HSZ0.out;show _≤_;omega
 have HBX:Hid (BoxAt w1 w.heap.size S G):=by
  have e:∀ j,w1.cell? ⟨w.heap.size,j,none⟩=w0.cell? ⟨w.heap.size,j,none⟩:=fun j=>HB1.out.cell (p:=⟨w.heap.size,j,none⟩) (by show w.heap.size<_;have:=HSZ0.out;omega)
  exact ⟨by have:=HSZ1.out;omega,(e 0).trans p0,(e 1).trans p1,(e 2).trans p2,(e 3).trans p3⟩
 have HBw1:Hid (Below w.heap.size w w1):=HB0.out.trans (HB1.out.mono HB0.out.size)
 have CL:Hid (Calls Try.prog 32 #[.pointer (some ⟨w.heap.size,0,none⟩),.bool true] w1 fun e w'=>(∃ T,e = .returned (.agg (T.cells (cleanOf G)))∧GrAt w'.heap.size w' T (cleanOf G)∧NewAt w1.heap.size T∧(T.a3=none→T.c3=0))∧Below w1.heap.size w1 w'):=cleaned_any B w1 w.heap.size S G ni n HF.out HBX.out (HAT.out.to (HBw1.out.mono hB)) (Nat.le_trans hB HBw1.out.size)
 have HR1:Hid (∀ j,w1.cell? ⟨w.heap.size+1,j,none⟩=(#[.int .i64 0,.slice none 0 0,.slice none 0 0,.slice none 0 0]:Array Value)[j]?):=fun j=>(HB1.out.cell (p:=⟨w.heap.size+1,j,none⟩) (by show w.heap.size+1<_;have:=HSZ0.out;omega)).trans (HQR.out j)
 have HF1:Hid (∀ j,w1.frozen? ⟨w.heap.size+1,j,none⟩=false):=fun j=>(HB1.out.frozen (p:=⟨w.heap.size+1,j,none⟩) (by show w.heap.size+1<_;have:=HSZ0.out;omega)).trans (HRF.out j)
 obtain ⟨rs,hrs⟩:∃ x,x=w.heap.size+1:=⟨_,rfl⟩
 rw [←hrs] at HR1 HF1
 have hrl:rs<w1.heap.size:=by have:=HSZ1.out;omega
 have hrw:w.heap.size≤rs:=by omega
 clear hb1 HB1 HSZ0 HQ HQR HRF p0 p1 p2 p3 HBX HSZ1 hs1 VL HB0
 go_wp2_with fail
 go_at_call 32
 refine CL.out.mono ?_
 rintro e w8 ⟨⟨T,rfl,hat8,hnw,hnil3⟩,hb8⟩
 rw [←hrs]
 clear hrs
 have HAT8:=hidden hat8
 have HNW:=hidden hnw
 have HNIL3:=hidden hnil3
 have HB8:=hidden hb8
 have hs8:=hb8.size
 have r0:=(hb8.cell (p:=⟨rs,0,none⟩) hrl).trans (HR1.out 0)
 have r1:=(hb8.cell (p:=⟨rs,1,none⟩) hrl).trans (HR1.out 1)
 have r2:=(hb8.cell (p:=⟨rs,2,none⟩) hrl).trans (HR1.out 2)
 have r3:=(hb8.cell (p:=⟨rs,3,none⟩) hrl).trans (HR1.out 3)
 have f0:=(hb8.frozen (p:=⟨rs,0,none⟩) hrl).trans (HF1.out 0)
 have f1:=(hb8.frozen (p:=⟨rs,1,none⟩) hrl).trans (HF1.out 1)
 have f2:=(hb8.frozen (p:=⟨rs,2,none⟩) hrl).trans (HF1.out 2)
 have f3:=(hb8.frozen (p:=⟨rs,3,none⟩) hrl).trans (HF1.out 3)
 simp at r0 r1 r2 r3
 clear hat8 hnw hb8 hnil3
 unfold GrS.cells
 generalize hGC:cleanOf G=H at *
 have HHC:=hidden hGC
 clear hGC
 go_wp2
 obtain ⟨z0,z1,z2,z3⟩:=set4 r0 r1 r2 r3 (.int .i64 H.ins) (.slice T.a1 H.lats.length T.c1) (.slice T.a2 H.ands.length T.c2) (.slice T.a3 H.outs.length T.c3)
 have HG9:=hidden (set4_grown w8 rs (.int .i64 H.ins) (.slice T.a1 H.lats.length T.c1) (.slice T.a2 H.ands.length T.c2) (.slice T.a3 H.outs.length T.c3))
 generalize World.setCell _ (⟨rs,3,none⟩:Addr) _=w9 at HG9 z0 z1 z2 z3 ⊢
 clear r0 r1 r2 r3 f0 f1 f2 f3
 refine bodyPost_ret (v:=.agg #[.int .i64 H.ins,.slice T.a1 H.lats.length T.c1,.slice T.a2 H.ands.length T.c2,.slice T.a3 H.outs.length T.c3]) (by simp [results,Try.results18,go_sem, *]) rfl ?_
 refine ⟨⟨T,?_,?_,HNIL3.out,⟨fun b o e=>Nat.le_trans HBw1.out.size (HNW.out.1 b o e),fun b o e=>Nat.le_trans HBw1.out.size (HNW.out.2.1 b o e),fun b o e=>Nat.le_trans HBw1.out.size (HNW.out.2.2 b o e)⟩⟩,?_⟩
 ·rw [HHC.out];try rfl
 ·rw [HHC.out];exact HAT8.out.set HNW.out hrl HG9.out
 ·exact (HBw1.out.trans (HB8.out.mono HBw1.out.size)).trans (below_grown HG9.out (by have:=HBw1.out.size;omega) (fun k hk=>by have:=Option.some.inj hk;omega))
end Go.Proofs.Ytlaljeobdddegaa
