import Derived.Test.YtlaljeobdddegaaJ32
namespace Go.Proofs.Ytlaljeobdddegaa
open Go.RowKit Mp
def JoinP (w:World) (a b:Ct) (e:Ending) (w':World):Prop:=Bl w w'∧(((joinL a.lv b.lv).length≤4∧e = .returned (.tuple #[.agg (ctC ⟨joinL a.lv b.lv,max a.dep b.dep,a.tb⟩).toArray,.bool true]))∨(¬ (joinL a.lv b.lv).length≤4∧e = .returned (.tuple #[.agg #[.int .i64 0,.int .i64 0,.int .i64 0,.int .i64 0,.int .i64 0,.int .u64 0,.int .i64 0,.int .u16 0],.bool false])))
set_option maxRecDepth 100000 in
set_option maxHeartbeats 8000000 in
theorem joined_any (w:World) (ab ao bb bo:Nat) (a b:Ct) (ha:CtAt w ab ao a) (hb:CtAt w bb bo b) (la:a.lv.length≤4) (lb:b.lv.length≤4) (ra:Ris a.lv) (rb:Ris b.lv) :
  Calls Try.prog 70 #[.pointer (some ⟨ab,ao,none⟩),.pointer (some ⟨bb,bo,none⟩)] w (JoinP w a b):=by
 go_enter Try.func70,Try.ntmps70
 go_upto_region 1 with fail
 obtain ⟨g,HG⟩:=exh w.heap.size
 have ha1:=ha.to ha.lt ((Below.refl w.heap.size w).alloc (Nat.le_refl _) (.cells #[.int .i64 0,.int .i64 0,.int .i64 0,.int .i64 0,.int .i64 0,.int .u64 0,.int .i64 0,.int .u16 0] 114))
 have hb1:=hb.to hb.lt ((Below.refl w.heap.size w).alloc (Nat.le_refl _) (.cells #[.int .i64 0,.int .i64 0,.int .i64 0,.int .i64 0,.int .i64 0,.int .u64 0,.int .i64 0,.int .u16 0] 114))
 have hbk:=Blk.new w 114 #[.int .i64 0,.int .i64 0,.int .i64 0,.int .i64 0,.int .i64 0,.int .u64 0,.int .i64 0,.int .u16 0]
 have HB0:Hid (Bl w (w.alloc (.cells #[.int .i64 0,.int .i64 0,.int .i64 0,.int .i64 0,.int .i64 0,.int .u64 0,.int .i64 0,.int .u16 0] 114))):=(Below.refl w.heap.size w).alloc (Nat.le_refl _) _
 generalize w.alloc (.cells #[.int .i64 0,.int .i64 0,.int .i64 0,.int .i64 0,.int .i64 0,.int .u64 0,.int .i64 0,.int .u16 0] 114)=w0 at *
 obtain ⟨q0,q1,q2,q3,q4,q5,q6,q7⟩:=And.intro ha1.c0 (And.intro ha1.c1 (And.intro ha1.c2 (And.intro ha1.c3 (And.intro ha1.c4 (And.intro ha1.c5 (And.intro ha1.c6 ha1.c7))))))
 have hab:ab≠g:=by rw [HG.out];have:=ha.lt;omega
 have hbb:bb≠g:=by rw [HG.out];have:=hb.lt;omega
 rw [←HG.out] at hbk ⊢
 have f0:=hbk.frozen 0
 have f1:=hbk.frozen 1
 have f2:=hbk.frozen 2
 have f3:=hbk.frozen 3
 have f4:=hbk.frozen 4
 have f5:=hbk.frozen 5
 have f6:=hbk.frozen 6
 have f7:=hbk.frozen 7
 have z0:=hbk.cell (i:=0) rfl
 have z1:=hbk.cell (i:=1) rfl
 have z2:=hbk.cell (i:=2) rfl
 have z3:=hbk.cell (i:=3) rfl
 have z4:=hbk.cell (i:=4) rfl
 have z5:=hbk.cell (i:=5) rfl
 have z6:=hbk.cell (i:=6) rfl
 have z7:=hbk.cell (i:=7) rfl
 go_upto_region 2 with fail
 have hbk2:Blk _ g 114 (bxA a.lv (mkM a.lv) a.dep a.tb):=Blk.eight (v0:=.int .i64 (lvN a 0:Nat)) (v1:=.int .i64 (lvN a 1:Nat)) (v2:=.int .i64 (lvN a 2:Nat)) (v3:=.int .i64 (lvN a 3:Nat)) (v4:=.int .i64 (a.lv.length:Nat)) (v5:=.int .u64 (mkM a.lv:Nat)) (v6:=.int .i64 (a.dep:Nat)) (v7:=.int .u16 (a.tb:Nat)) hbk
 have hbt2:=But.eight w0 g (.int .i64 (lvN a 0:Nat)) (.int .i64 (lvN a 1:Nat)) (.int .i64 (lvN a 2:Nat)) (.int .i64 (lvN a 3:Nat)) (.int .i64 (a.lv.length:Nat)) (.int .u64 (mkM a.lv:Nat)) (.int .i64 (a.dep:Nat)) (.int .u16 (a.tb:Nat))
 clear f0 f1 f2 f3 f4 f5 f6 f7 z0 z1 z2 z3 z4 z5 z6 z7 q0 q1 q2 q3 q4 q5 q6 q7
 generalize ((((((((w0.setCell ⟨g,0,none⟩ (.int .i64 (lvN a 0:Nat))).setCell ⟨g,1,none⟩ (.int .i64 (lvN a 1:Nat))).setCell ⟨g,2,none⟩ (.int .i64 (lvN a 2:Nat))).setCell ⟨g,3,none⟩ (.int .i64 (lvN a 3:Nat))).setCell ⟨g,4,none⟩ (.int .i64 (a.lv.length:Nat))).setCell ⟨g,5,none⟩ (.int .u64 (mkM a.lv:Nat))).setCell ⟨g,6,none⟩ (.int .i64 (a.dep:Nat))).setCell ⟨g,7,none⟩ (.int .u16 (a.tb:Nat)))=w1 at *
 have HB1:Hid (Below g w w1):=by
  have h1:=hbt2.below (B:=g) (Nat.le_refl _) (by rw [HG.out];exact HB0.out.size)
  show Below _ _ _
  have h2:Below w.heap.size w w0:=HB0.out
  rw [←HG.out] at h2
  exact h2.trans h1
 have ha2:CtAt w1 ab ao a:=ha.to (B:=g) (by rw [HG.out];exact ha.lt) HB1.out
 have hb2:CtAt w1 bb bo b:=hb.to (B:=g) (by rw [HG.out];exact hb.lt) HB1.out
 clear ha1 hb1 hbk hbt2 HB0
 have hor:bits BinOp.or IntKind.u64 (mkM a.lv:Int) (mkM b.lv:Int)=((mkM (joinL a.lv b.lv):Nat):Int):=by rw [u64_or_nat _ _ (mkM_lt _) (mkM_lt _),mkM_join]
 have p5:=hb2.c5
 have g5:=hbk2.cell (i:=5) rfl
 have gf5:=hbk2.frozen 5
 have g5d:w1.drew.cell? ⟨g,5,none⟩=some (.int .u64 (mkM a.lv:Nat)):=g5
 have gf5d:w1.drew.frozen? ⟨g,5,none⟩=false:=gf5
 refine wp_region_noPanic ?_
 refine wp_region_held_drew (S:=fun wz=>wz.cell? ⟨bb,bo+5,none⟩=some (.int .u64 (mkM b.lv:Int))) (by kernel_rfl) (by exact p5) (fun hHeld=>?_)
 refine tk 0 ?_
 refine tk 2 ?_
 refine tk 3 ?_
 refine tk 4 ?_
 refine tk 5 ?_
 refine rd 1 fun K hK=>?_
 (try simp only [gA,gB,gC]);go_simp
 refine wo hK hHeld fun hHeld2=>?_
 clear hK K
 refine tk 6 ?_
 refine tk 7 ?_
 refine rd 8 fun K hK=>?_
 (try simp only [gA,gB,gC]);go_simp
 refine wo hK ((But.set g 5 w1.drew _).cell hHeld hbb) fun hHeld3=>?_
 clear hK K
 refine wpAnyH_done (by kernel_rfl) ?_ _
 refine NoPanic.normal ?_
 have hbk3:Blk (w1.setCell ⟨g,5,none⟩ (.int .u64 (mkM (joinL a.lv b.lv):Nat))).drew g 114 (bxA a.lv (mkM (joinL a.lv b.lv)) a.dep a.tb):=hbk2.set 5 _
 have HB2:Hid (Below g w (w1.setCell ⟨g,5,none⟩ (.int .u64 (mkM (joinL a.lv b.lv):Nat))).drew):=Below.drew (HB1.out.trans ((But.set g 5 w1 _).below (Nat.le_refl _) (Nat.le_of_lt hbk2.lt)))
 clear hHeld hHeld2 hHeld3 g5 gf5 g5d gf5d hbk2 HB1 p5 ha2 hb2 hor
 generalize (w1.setCell ⟨g,5,none⟩ (.int .u64 (mkM (joinL a.lv b.lv):Nat))).drew=w2 at *
 have ha2:CtAt w2 ab ao a:=ha.to (B:=g) (by rw [HG.out];exact ha.lt) HB2.out
 have hb2:CtAt w2 bb bo b:=hb.to (B:=g) (by rw [HG.out];exact hb.lt) HB2.out
 have p6:=ha2.c6
 have r6:=hb2.c6
 have hmx:max (a.dep:Int) (b.dep:Int)=((max a.dep b.dep:Nat):Int):=by omega
 have g6d:w2.drew.cell? ⟨g,6,none⟩=some (.int .i64 (a.dep:Nat)):=hbk3.cell (i:=6) rfl
 have gf6d:w2.drew.frozen? ⟨g,6,none⟩=false:=hbk3.frozen 6
 go_wp2_with fail
 refine wp_region_noPanic ?_
 refine wp_region_held_drew (S:=fun wz=>wz.cell? ⟨ab,ao+6,none⟩=some (.int .i64 (a.dep:Int))∧wz.cell? ⟨bb,bo+6,none⟩=some (.int .i64 (b.dep:Int))) (by kernel_rfl) (by exact ⟨p6,r6⟩) (fun hHeld=>?_)
 refine tk 0 ?_
 refine tk 1 ?_
 refine tk 2 ?_
 refine tk 3 ?_
 refine tk 4 ?_
 refine tk 5 ?_
 refine tk 6 ?_
 refine tk 7 ?_
 refine tk 8 ?_
 refine tk 9 ?_
 refine rd 10 fun K hK=>?_
 (try simp only [gA,gB,gC]);go_simp
 refine wo hK ⟨(But.set g 6 w2.drew _).cell hHeld.1 hab,(But.set g 6 w2.drew _).cell hHeld.2 hbb⟩ fun hHeld3=>?_
 clear hK K
 refine wpAnyH_done (by kernel_rfl) ?_ _
 refine NoPanic.normal ?_
 have hbk4:Blk (w2.setCell ⟨g,6,none⟩ (.int .i64 (max a.dep b.dep:Nat))).drew g 114 (bxA a.lv (mkM (joinL a.lv b.lv)) (max a.dep b.dep) a.tb):=hbk3.set 6 _
 have HB3:Hid (Below g w (w2.setCell ⟨g,6,none⟩ (.int .i64 (max a.dep b.dep:Nat))).drew):=Below.drew (HB2.out.trans ((But.set g 6 w2 _).below (Nat.le_refl _) (Nat.le_of_lt hbk3.lt)))
 clear hHeld hHeld3 g6d gf6d hbk3 HB2 p6 r6 ha2 hb2 hmx
 generalize (w2.setCell ⟨g,6,none⟩ (.int .i64 (max a.dep b.dep:Nat))).drew=w3 at *
 have ON:=hidden (ones_any (mkM (joinL a.lv b.lv)) (mkM_lt _) w3)
 have hfew:=marks_few (joinL a.lv b.lv)
 have HBE:Hid (∀ v:World,Below g w v→CtAt v bb bo b):=fun v hv=>hb.to (B:=g) (by rw [HG.out];exact hb.lt) hv
 have HLB:Hid (∀ v:World,Below g w v→Calls Try.prog 75 #[.pointer (some ⟨bb,bo,none⟩)] v fun e w'=>e = .returned (.slice (some ⟨bb,bo,none⟩) b.lv.length b.lv.length)∧w'=v.drewN 1):=fun v hv=>list_any v bb bo b (HBE.out v hv) lb
 have HBL:Hid (∀ (v:World) (k x:Nat),Below g w v→b.lv[k]?=some x→v.cell? ⟨bb,bo+k,none⟩=some (.int .i64 (x:Nat))):=fun v k x hv hx=>(HBE.out v hv).leaf lb hx
 have HFIN:Hid (∀ v:World,Below g w v→Bl w v):=fun v hv=>by rw [HG.out] at hv;exact hv
 have HJS:Hid (JnS w g (mkM (joinL a.lv b.lv)) (max a.dep b.dep) a.tb a.lv b.lv 0 a.lv w3):=⟨hbk4,HB3.out,ra,fun y=>by simp,la⟩
 have HNO:Hid (∀ v:World,Bl w v→¬ (joinL a.lv b.lv).length≤4→JoinP w a b (.returned (.tuple #[.agg #[.int .i64 0,.int .i64 0,.int .i64 0,.int .i64 0,.int .i64 0,.int .u64 0,.int .i64 0,.int .u16 0],.bool false])) v):=fun v hv hn=>⟨hv,Or.inr ⟨hn,rfl⟩⟩
 have HYES:Hid (∀ (v:World) (l:List Nat),Bl w v→l=joinL a.lv b.lv→l.length≤4→JoinP w a b (.returned (.tuple #[.agg (bxA l (mkM (joinL a.lv b.lv)) (max a.dep b.dep) a.tb),.bool true])) v):=fun v l hv he hl=>⟨hv,Or.inl ⟨by rw [←he];exact hl,by rw [he];rfl⟩⟩
 have RA:=hidden ra
 have RB:=hidden rb
 obtain ⟨jl,EJ⟩:=exh (joinL a.lv b.lv)
 have HJL:Hid (jl=joinL a.lv b.lv):=EJ.out
 rw [←EJ.out] at ON hfew hbk4 HJS HNO HYES
 generalize a.lv=al at *
 generalize b.lv=bl at *
 generalize max a.dep b.dep=D at *
 generalize a.tb=T at *
 generalize JoinP w a b=JP at *
 obtain ⟨n,En⟩:=exh bl.length
 rw [←En.out] at HLB lb
 obtain ⟨s,HS⟩:=exh (bitsD 64 (mkM jl)).sum
 rw [←HS.out] at ON hfew
 have hsl:s≤64:=by
  rw [HS.out,bits_count]
  have:=List.length_filter_le (fun i=>(mkM jl).testBit i) (List.range 64)
  rw [List.length_range] at this
  exact this
 generalize mkM jl=M at *
 have g5:=hbk4.cell (i:=5) rfl
 have g5':w3.cell? ⟨g,5,none⟩=some (.int .u64 (M:Nat)):=g5
 clear g5 ha hb ra rb HBE HS
 go_wp2_with fail
 go_at_call 74
 refine ON.out.mono ?_
 rintro e v ⟨rfl,hv⟩
 rw [hv]
 clear hv v ON g5'
 by_cases hs:4<s
 ·have hsI:(4:Int)<(s:Int):=by omega
  have hno:¬ jl.length≤4:=by omega
  have f0:=hbk4.frozen 0
  have f1:=hbk4.frozen 1
  have f2:=hbk4.frozen 2
  have f3:=hbk4.frozen 3
  have f4:=hbk4.frozen 4
  have f5:=hbk4.frozen 5
  have f6:=hbk4.frozen 6
  have f7:=hbk4.frozen 7
  have z0:w3.cell? ⟨g,0,none⟩=some (.int .i64 (al.getD 0 0:Nat)):=hbk4.cell (i:=0) rfl
  have z1:w3.cell? ⟨g,1,none⟩=some (.int .i64 (al.getD 1 0:Nat)):=hbk4.cell (i:=1) rfl
  have z2:w3.cell? ⟨g,2,none⟩=some (.int .i64 (al.getD 2 0:Nat)):=hbk4.cell (i:=2) rfl
  have z3:w3.cell? ⟨g,3,none⟩=some (.int .i64 (al.getD 3 0:Nat)):=hbk4.cell (i:=3) rfl
  have z4:w3.cell? ⟨g,4,none⟩=some (.int .i64 (al.length:Nat)):=hbk4.cell (i:=4) rfl
  have z5:w3.cell? ⟨g,5,none⟩=some (.int .u64 (M:Nat)):=hbk4.cell (i:=5) rfl
  have z6:w3.cell? ⟨g,6,none⟩=some (.int .i64 (D:Nat)):=hbk4.cell (i:=6) rfl
  have z7:w3.cell? ⟨g,7,none⟩=some (.int .u16 (T:Nat)):=hbk4.cell (i:=7) rfl
  have HF:Hid (Bl w ((((((((w3.setCell ⟨g,0,none⟩ (.int .i64 0)).setCell ⟨g,1,none⟩ (.int .i64 0)).setCell ⟨g,2,none⟩ (.int .i64 0)).setCell ⟨g,3,none⟩ (.int .i64 0)).setCell ⟨g,4,none⟩ (.int .i64 0)).setCell ⟨g,5,none⟩ (.int .u64 0)).setCell ⟨g,6,none⟩ (.int .i64 0)).setCell ⟨g,7,none⟩ (.int .u16 0))):=HFIN.out _ (HB3.out.trans ((But.eight w3 g _ _ _ _ _ _ _ _).below (Nat.le_refl _) (Nat.le_of_lt hbk4.lt)))
  have hbz:=Blk.eight (v0:=.int .i64 0) (v1:=.int .i64 0) (v2:=.int .i64 0) (v3:=.int .i64 0) (v4:=.int .i64 0) (v5:=.int .u64 0) (v6:=.int .i64 0) (v7:=.int .u16 0) hbk4
  go_wp2_with fail
  generalize ((((((((w3.setCell ⟨g,0,none⟩ (.int .i64 0)).setCell ⟨g,1,none⟩ (.int .i64 0)).setCell ⟨g,2,none⟩ (.int .i64 0)).setCell ⟨g,3,none⟩ (.int .i64 0)).setCell ⟨g,4,none⟩ (.int .i64 0)).setCell ⟨g,5,none⟩ (.int .u64 0)).setCell ⟨g,6,none⟩ (.int .i64 0)).setCell ⟨g,7,none⟩ (.int .u16 0))=w4 at *
  have y0:w4.cell? ⟨g,0,none⟩=some (.int .i64 0):=hbz.cell (i:=0) rfl
  have y1:w4.cell? ⟨g,1,none⟩=some (.int .i64 0):=hbz.cell (i:=1) rfl
  have y2:w4.cell? ⟨g,2,none⟩=some (.int .i64 0):=hbz.cell (i:=2) rfl
  have y3:w4.cell? ⟨g,3,none⟩=some (.int .i64 0):=hbz.cell (i:=3) rfl
  have y4:w4.cell? ⟨g,4,none⟩=some (.int .i64 0):=hbz.cell (i:=4) rfl
  have y5:w4.cell? ⟨g,5,none⟩=some (.int .u64 0):=hbz.cell (i:=5) rfl
  have y6:w4.cell? ⟨g,6,none⟩=some (.int .i64 0):=hbz.cell (i:=6) rfl
  have y7:w4.cell? ⟨g,7,none⟩=some (.int .u16 0):=hbz.cell (i:=7) rfl
  refine bodyPost_ret (v:=.tuple #[.agg #[.int .i64 0,.int .i64 0,.int .i64 0,.int .i64 0,.int .i64 0,.int .u64 0,.int .i64 0,.int .u16 0],.bool false]) (by simp [results,Try.results70,go_sem,y0,y1,y2,y3,y4,y5,y6,y7]) rfl ?_
  exact HNO.out _ HF.out hno
 have hsI:¬ (4:Int)<(s:Int):=by omega
 go_wp2_with fail
 go_at_call 75
 refine (HLB.out w3 HB3.out).mono ?_
 rintro e v ⟨rfl,hv⟩
 have HJ1:Hid (JnS w g M D T al bl 0 al v):=HJS.out.to (by rw [hv];exact Below.drewN (Below.refl _ _) 1)
 clear hv HJS hs hbk4 HB3
 go_wp2_with fail
 go_loopw [7,8,9,39] (fun _ _ _ i' w'=>∃ (k:Nat) (l:List Nat),k≤n∧i' = .int .i64 (k:Int)∧Hid (JnS w g M D T al bl k l w')) (fun _ _ _ i' _=>n - (intOf i').toNat)
 case atStart=>exact ⟨0,al,Nat.zero_le _,rfl,HJ1.out⟩
 case round =>
  clear HJ1
  obtain ⟨k,l,hk,rfl,HJ⟩:=hrel
  have hl4:=HJ.out.len
  have HEI:Hid (l.length=l.length):=rfl
  by_cases hlt:k<n
  ·have hltI:(k:Int)<(n:Int):=by omega
   obtain ⟨x,hx⟩:=getElem_lt (show k<bl.length by rw [←En.out];exact hlt)
   have cx:=HBL.out wr k x HJ.out.bw hx
   have e2:IntKind.i64.wrap ((k:Int)+1)=(k:Int)+1:=wrapI _ (by omega) (by omega)
   have HX:=hidden hx
   have q4:wr.cell? ⟨g,0+4,none⟩=some (.int .i64 (l.length:Int)):=HJ.out.bk.cell (i:=4) rfl
   have LR:=hidden (list_raw wr g 0 l.length q4 hl4)
   have HSE:Hid (∀ v:World,Bl wr v→Calls Try.prog 76 #[.slice (some ⟨g,0,none⟩) l.length l.length,.int .i64 (x:Nat)] v fun e w'=>∃ p:Nat,Hid (Spot l x p)∧e = .returned (.tuple #[.int .i64 (p:Nat),.bool (decide (x ∈ l))])∧w'=v):=fun v hv=>search_any v _ _ l x (by omega) (HJ.out.to hv).num HJ.out.ris
   obtain ⟨ln,Eln⟩:=exh l.length
   rw [←Eln.out] at LR HSE hl4
   clear hx q4 HEI
   go_wp2_with fail
   go_at_call 75
   refine LR.out.mono ?_
   rintro e v2 ⟨rfl,hv2⟩
   have HBV:Hid (Bl wr v2):=by rw [hv2];exact Below.drewN (Below.refl _ _) 1
   clear hv2 LR cx
   go_wp2_with fail
   go_at_call 76
   refine (HSE.out v2 HBV.out).mono ?_
   rintro e v3 ⟨p,HSP,rfl,hv3⟩
   rw [hv3]
   clear hv3 v3 HSE
   have HJ2:=hidden (HJ.out.to HBV.out)
   by_cases hin:x ∈ l
   ·have hdec:decide (x ∈ l)=true:=decide_eq_true hin
    have HJ3:=hidden (HJ.out.same HX.out hin HBV.out)
    rw [hdec]
    clear hin hdec HJ HJ2
    go_wp2
    go_roundw
    case measure=>simp [intOf];omega
    case rel=>exact ⟨k+1,l,by omega,by simp,HJ3.out⟩
   ·have hdec:decide (x ∈ l)=false:=decide_eq_false hin
    have HIN:=hidden hin
    rw [hdec]
    clear hin hdec HJ
    have hbk5:=HJ2.out.bk
    have q4:v2.cell? ⟨g,4,none⟩=some (.int .i64 (ln:Int)):=by rw [Eln.out];exact hbk5.cell (i:=4) rfl
    by_cases h4:ln=4
    ·have h4I:(ln:Int)=4:=by omega
     have hno:¬ jl.length≤4:=by rw [HJL.out];exact HJ2.out.full HX.out HIN.out (by rw [←Eln.out];exact h4)
     clear h4
     have f0:=hbk5.frozen 0
     have f1:=hbk5.frozen 1
     have f2:=hbk5.frozen 2
     have f3:=hbk5.frozen 3
     have f4:=hbk5.frozen 4
     have f5:=hbk5.frozen 5
     have f6:=hbk5.frozen 6
     have f7:=hbk5.frozen 7
     have z0:v2.cell? ⟨g,0,none⟩=some (.int .i64 (l.getD 0 0:Nat)):=hbk5.cell (i:=0) rfl
     have z1:v2.cell? ⟨g,1,none⟩=some (.int .i64 (l.getD 1 0:Nat)):=hbk5.cell (i:=1) rfl
     have z2:v2.cell? ⟨g,2,none⟩=some (.int .i64 (l.getD 2 0:Nat)):=hbk5.cell (i:=2) rfl
     have z3:v2.cell? ⟨g,3,none⟩=some (.int .i64 (l.getD 3 0:Nat)):=hbk5.cell (i:=3) rfl
     have z4:v2.cell? ⟨g,4,none⟩=some (.int .i64 (l.length:Nat)):=hbk5.cell (i:=4) rfl
     have z5:v2.cell? ⟨g,5,none⟩=some (.int .u64 (M:Nat)):=hbk5.cell (i:=5) rfl
     have z6:v2.cell? ⟨g,6,none⟩=some (.int .i64 (D:Nat)):=hbk5.cell (i:=6) rfl
     have z7:v2.cell? ⟨g,7,none⟩=some (.int .u16 (T:Nat)):=hbk5.cell (i:=7) rfl
     have HF:Hid (Bl w ((((((((v2.setCell ⟨g,0,none⟩ (.int .i64 0)).setCell ⟨g,1,none⟩ (.int .i64 0)).setCell ⟨g,2,none⟩ (.int .i64 0)).setCell ⟨g,3,none⟩ (.int .i64 0)).setCell ⟨g,4,none⟩ (.int .i64 0)).setCell ⟨g,5,none⟩ (.int .u64 0)).setCell ⟨g,6,none⟩ (.int .i64 0)).setCell ⟨g,7,none⟩ (.int .u16 0))):=HFIN.out _ (HJ2.out.bw.trans ((But.eight v2 g _ _ _ _ _ _ _ _).below (Nat.le_refl _) (Nat.le_of_lt hbk5.lt)))
     have hbz:=Blk.eight (v0:=.int .i64 0) (v1:=.int .i64 0) (v2:=.int .i64 0) (v3:=.int .i64 0) (v4:=.int .i64 0) (v5:=.int .u64 0) (v6:=.int .i64 0) (v7:=.int .u16 0) hbk5
     go_wp2_with fail
     generalize ((((((((v2.setCell ⟨g,0,none⟩ (.int .i64 0)).setCell ⟨g,1,none⟩ (.int .i64 0)).setCell ⟨g,2,none⟩ (.int .i64 0)).setCell ⟨g,3,none⟩ (.int .i64 0)).setCell ⟨g,4,none⟩ (.int .i64 0)).setCell ⟨g,5,none⟩ (.int .u64 0)).setCell ⟨g,6,none⟩ (.int .i64 0)).setCell ⟨g,7,none⟩ (.int .u16 0))=w6 at *
     have y0:w6.cell? ⟨g,0,none⟩=some (.int .i64 0):=hbz.cell (i:=0) rfl
     have y1:w6.cell? ⟨g,1,none⟩=some (.int .i64 0):=hbz.cell (i:=1) rfl
     have y2:w6.cell? ⟨g,2,none⟩=some (.int .i64 0):=hbz.cell (i:=2) rfl
     have y3:w6.cell? ⟨g,3,none⟩=some (.int .i64 0):=hbz.cell (i:=3) rfl
     have y4:w6.cell? ⟨g,4,none⟩=some (.int .i64 0):=hbz.cell (i:=4) rfl
     have y5:w6.cell? ⟨g,5,none⟩=some (.int .u64 0):=hbz.cell (i:=5) rfl
     have y6:w6.cell? ⟨g,6,none⟩=some (.int .i64 0):=hbz.cell (i:=6) rfl
     have y7:w6.cell? ⟨g,7,none⟩=some (.int .u16 0):=hbz.cell (i:=7) rfl
     refine bodyPost_ret (v:=.tuple #[.agg #[.int .i64 0,.int .i64 0,.int .i64 0,.int .i64 0,.int .i64 0,.int .u64 0,.int .i64 0,.int .u16 0],.bool false]) (by simp [results,Try.results70,go_sem,y0,y1,y2,y3,y4,y5,y6,y7]) rfl ?_
     exact HNO.out _ HF.out hno
    ·have h4I:¬ (ln:Int)=4:=by omega
     have hpl:p≤ln:=by rw [Eln.out];exact HSP.out.le
     have hpI:(p:Int)≤(ln:Int):=by omega
     have hll:l.length≤3:=by rw [←Eln.out];omega
     have hpl2:p≤l.length:=HSP.out.le
     have hp3:(p:Int)≤3:=by omega
     have RD:∀ wx:World,(Instr.sliceAt 110 (.pointer (some ⟨g,0,none⟩)) (some (.int .i64 ((p:Int)+1))) none none).run Try.prog wx = .ok (dstV g p) wx:=fun wx=>dst_sl wx g p (by omega)
     have RC:∀ wx:World,(Instr.sliceAt 110 (.pointer (some ⟨g,0,none⟩)) (some (.int .i64 (p:Int))) (some (.int .i64 (ln:Int))) none).run Try.prog wx = .ok (srcV g ln p) wx:=fun wx=>src_sl wx g ln p hpl (by omega)
     have e3:IntKind.i64.wrap ((p:Int)+1)=(p:Int)+1:=wrapI _ (by omega) (by omega)
     have e4:IntKind.i64.wrap ((ln:Int)+1)=(ln:Int)+1:=wrapI _ (by omega) (by omega)
     obtain ⟨wy,hcp,hby,hky⟩:=copy_step v2.drew g p M D T l hll hpl2 3 hbk5
     rw [←Eln.out] at hcp
     have HJ4:Hid (JnS w g M D T al bl (k+1) (insA l p x) ((wy.setCell ⟨g,p,none⟩ (.int .i64 (x:Nat))).setCell ⟨g,4,none⟩ (.int .i64 ((ln:Int)+1)))):=by
      refine ⟨?_,HJ2.out.bw.trans ?_,insA_ris HJ2.out.ris HSP.out HIN.out,fun y=>?_,by rw [insA_len hpl2];omega⟩
      ·have:=ins_box (x:=x) hll hpl2 hky
       rw [←Eln.out] at this
       exact this
      ·have hdr:Below g v2 v2.drew:=Below.drew (Below.refl _ _)
       exact hdr.trans (((hby.trans (But.set g p wy _)).trans (But.set g 4 _ _)).below (Nat.le_refl _) (Nat.le_of_lt hbk5.lt))
      ·rw [insA_mem,take_next _ _ _ HX.out,List.mem_append,List.mem_singleton,←or_assoc,←HJ2.out.mem y]
       exact Or.comm
     have cp1:wy.frozen? ⟨g,p,none⟩=false:=hky.frozen p
     have cp2:∃ u,wy.cell? ⟨g,p,none⟩=some u:=by
      have:p=0∨p=1∨p=2∨p=3:=by omega
      rcases this with rfl | rfl | rfl | rfl
      ·exact ⟨_,hky.cell (i:=0) rfl⟩
      ·exact ⟨_,hky.cell (i:=1) rfl⟩
      ·exact ⟨_,hky.cell (i:=2) rfl⟩
      ·exact ⟨_,hky.cell (i:=3) rfl⟩
     obtain ⟨u0,cp2⟩:=cp2
     have cp3:wy.cell? ⟨g,4,none⟩=some (.int .i64 (ln:Int)):=by rw [Eln.out];exact hky.cell (i:=4) rfl
     have cp4:wy.frozen? ⟨g,4,none⟩=false:=hky.frozen 4
     have hp4:(p:Int)<4:=by omega
     have hpne:¬ p=4:=by omega
     have HIC:Hid (insA l p x=insA l p x):=rfl
     clear HJ2 hbk5 hby hky HIC h4 hll hpl2
     go_wp2_with fail
     refine wp_region_noPanic ?_
     refine wp_region_held_drew (S:=fun wz=>wz.cell? ⟨g,4,none⟩=some (.int .i64 (ln:Int))) (by kernel_rfl) (by exact q4) (fun hHeld=>?_)
     refine tk 0 ?_
     refine tk 1 ?_
     refine tk 2 ?_
     refine tk 3 ?_
     refine tk 4 ?_
     refine tk 5 ?_
     refine tk 6 ?_
     refine tk 7 ?_
     refine tk 8 ?_
     refine rd 9 fun K hK=>?_
     (try simp only [gA,gB,gC]);go_simp
     refine wo hK cp3 fun hHeld3=>?_
     clear hK K
     refine wpAnyH_done (by kernel_rfl) ?_ _
     refine NoPanic.normal ?_
     clear hHeld hHeld3 q4 RD RC hcp
     go_wp2
     go_roundw
     case measure=>simp [intOf];omega
     case rel=>exact ⟨k+1,insA l p x,by omega,by simp,HJ4.out⟩
  ·have hge:¬ (k:Int)<(n:Int):=by omega
   have HEQ:Hid (l=jl):=by rw [HJL.out];exact HJ.out.done RA.out RB.out (by have:=En.out;omega)
   have HBF:Hid (Bl w wr):=HFIN.out wr HJ.out.bw
   have hbk6:=HJ.out.bk
   have f0:=hbk6.frozen 0
   have f1:=hbk6.frozen 1
   have f2:=hbk6.frozen 2
   have f3:=hbk6.frozen 3
   have f4:=hbk6.frozen 4
   have f5:=hbk6.frozen 5
   have f6:=hbk6.frozen 6
   have f7:=hbk6.frozen 7
   have z0:wr.cell? ⟨g,0,none⟩=some (.int .i64 (l.getD 0 0:Nat)):=hbk6.cell (i:=0) rfl
   have z1:wr.cell? ⟨g,1,none⟩=some (.int .i64 (l.getD 1 0:Nat)):=hbk6.cell (i:=1) rfl
   have z2:wr.cell? ⟨g,2,none⟩=some (.int .i64 (l.getD 2 0:Nat)):=hbk6.cell (i:=2) rfl
   have z3:wr.cell? ⟨g,3,none⟩=some (.int .i64 (l.getD 3 0:Nat)):=hbk6.cell (i:=3) rfl
   have z4:wr.cell? ⟨g,4,none⟩=some (.int .i64 (l.length:Nat)):=hbk6.cell (i:=4) rfl
   have z5:wr.cell? ⟨g,5,none⟩=some (.int .u64 (M:Nat)):=hbk6.cell (i:=5) rfl
   have z6:wr.cell? ⟨g,6,none⟩=some (.int .i64 (D:Nat)):=hbk6.cell (i:=6) rfl
   have z7:wr.cell? ⟨g,7,none⟩=some (.int .u16 (T:Nat)):=hbk6.cell (i:=7) rfl
   have hbz:=Blk.eight (v0:=.int .i64 (l.getD 0 0:Nat)) (v1:=.int .i64 (l.getD 1 0:Nat)) (v2:=.int .i64 (l.getD 2 0:Nat)) (v3:=.int .i64 (l.getD 3 0:Nat)) (v4:=.int .i64 (l.length:Nat)) (v5:=.int .u64 (M:Nat)) (v6:=.int .i64 (D:Nat)) (v7:=.int .u16 (T:Nat)) hbk6
   have HYE:Hid (JP (.returned (.tuple #[.agg #[.int .i64 (l.getD 0 0:Nat),.int .i64 (l.getD 1 0:Nat),.int .i64 (l.getD 2 0:Nat),.int .i64 (l.getD 3 0:Nat),.int .i64 (l.length:Nat),.int .u64 (M:Nat),.int .i64 (D:Nat),.int .u16 (T:Nat)],.bool true])) ((((((((wr.setCell ⟨g,0,none⟩ (.int .i64 (l.getD 0 0:Nat))).setCell ⟨g,1,none⟩ (.int .i64 (l.getD 1 0:Nat))).setCell ⟨g,2,none⟩ (.int .i64 (l.getD 2 0:Nat))).setCell ⟨g,3,none⟩ (.int .i64 (l.getD 3 0:Nat))).setCell ⟨g,4,none⟩ (.int .i64 (l.length:Nat))).setCell ⟨g,5,none⟩ (.int .u64 (M:Nat))).setCell ⟨g,6,none⟩ (.int .i64 (D:Nat))).setCell ⟨g,7,none⟩ (.int .u16 (T:Nat)))):=HYES.out _ l (HFIN.out _ (HJ.out.bw.trans ((But.eight wr g _ _ _ _ _ _ _ _).below (Nat.le_refl _) (Nat.le_of_lt hbk6.lt)))) HEQ.out hl4
   clear HJ hbk6 HEQ HBF HEI hl4
   generalize l.getD 0 0=x0 at *
   generalize l.getD 1 0=x1 at *
   generalize l.getD 2 0=x2 at *
   generalize l.getD 3 0=x3 at *
   generalize l.length=xn at *
   go_wp2_with fail
   generalize ((((((((wr.setCell ⟨g,0,none⟩ (.int .i64 (x0:Nat))).setCell ⟨g,1,none⟩ (.int .i64 (x1:Nat))).setCell ⟨g,2,none⟩ (.int .i64 (x2:Nat))).setCell ⟨g,3,none⟩ (.int .i64 (x3:Nat))).setCell ⟨g,4,none⟩ (.int .i64 (xn:Nat))).setCell ⟨g,5,none⟩ (.int .u64 (M:Nat))).setCell ⟨g,6,none⟩ (.int .i64 (D:Nat))).setCell ⟨g,7,none⟩ (.int .u16 (T:Nat)))=w7 at *
   have y0:w7.cell? ⟨g,0,none⟩=some (.int .i64 (x0:Nat)):=hbz.cell (i:=0) rfl
   have y1:w7.cell? ⟨g,1,none⟩=some (.int .i64 (x1:Nat)):=hbz.cell (i:=1) rfl
   have y2:w7.cell? ⟨g,2,none⟩=some (.int .i64 (x2:Nat)):=hbz.cell (i:=2) rfl
   have y3:w7.cell? ⟨g,3,none⟩=some (.int .i64 (x3:Nat)):=hbz.cell (i:=3) rfl
   have y4:w7.cell? ⟨g,4,none⟩=some (.int .i64 (xn:Nat)):=hbz.cell (i:=4) rfl
   have y5:w7.cell? ⟨g,5,none⟩=some (.int .u64 (M:Nat)):=hbz.cell (i:=5) rfl
   have y6:w7.cell? ⟨g,6,none⟩=some (.int .i64 (D:Nat)):=hbz.cell (i:=6) rfl
   have y7:w7.cell? ⟨g,7,none⟩=some (.int .u16 (T:Nat)):=hbz.cell (i:=7) rfl
   refine bodyPost_ret (v:=.tuple #[.agg #[.int .i64 (x0:Nat),.int .i64 (x1:Nat),.int .i64 (x2:Nat),.int .i64 (x3:Nat),.int .i64 (xn:Nat),.int .u64 (M:Nat),.int .i64 (D:Nat),.int .u16 (T:Nat)],.bool true]) (by simp [results,Try.results70,go_sem,y0,y1,y2,y3,y4,y5,y6,y7]) rfl ?_
   exact HYE.out
end Go.Proofs.Ytlaljeobdddegaa
