import Derived.Test.YtlaljeobdddegaaJ47
namespace Go.Proofs.Ytlaljeobdddegaa
open Go.RowKit Mp
theorem tabP_keep {N N':NetL} {sg sg':Nat→Int} {l:Nat} {ins:List Int} {B:Nat} (h:TabP N N' sg sg' l ins B):N'.ni=N.ni∧N'.init=N.init∧N'.next=N.next∧N'.outs=N.outs∧N'.tabs.length=N.tabs.length+1:=by
 obtain ⟨d,_,_,rfl,_⟩:=h
 exact ⟨rfl,rfl,rfl,rfl,by show (N.tabs++[d]).length=_;simp⟩
theorem gateP_keep {N N':NetL} {sg sg':Nat→Int} {wd:Nat→Bool} {v:Nat} {ins:List Int} {B B':Nat} (h:GateP N N' sg sg' wd v ins B B'):N'.ni=N.ni∧N'.init=N.init∧N'.next=N.next∧N'.outs=N.outs∧N'.tabs.length≤N.tabs.length+2:=by
 obtain ⟨N1,sg1,hA,hB⟩:=h
 have h1:N1.ni=N.ni∧N1.init=N.init∧N1.next=N.next∧N1.outs=N.outs∧N1.tabs.length≤N.tabs.length+1:=by
  rcases hA with ⟨_,hT⟩ | ⟨_,rfl,_⟩
  ·have:=tabP_keep hT
   exact ⟨this.1,this.2.1,this.2.2.1,this.2.2.2.1,by omega⟩
  ·exact ⟨rfl,rfl,rfl,rfl,by omega⟩
 rcases hB with ⟨_,hT⟩ | ⟨_,rfl,_⟩
 ·have:=tabP_keep hT
  refine ⟨this.1.trans h1.1,this.2.1.trans h1.2.1,this.2.2.1.trans h1.2.2.1,this.2.2.2.1.trans h1.2.2.2.1,by omega⟩
 ·exact ⟨h1.1,h1.2.1,h1.2.2.1,h1.2.2.2.1,by omega⟩
def YX (F:Nat) (gs:List Nat) (x:Nat) (u:Nat):Prop:=u<F∨∃ j,x≤j∧gs[j]?=some u
theorem LayI.gateX {P:(Nat→Bool)→Prop} {F n:Nat} {dp:Nat→Nat} {dl:Nat} {E:Nat→Prop} {U:Nat→Nat} {wd:Nat→Bool} {N N':NetL} {sg sg':Nat→Int} {gs:List Nat} {Ls:List (List Nat)} {bs:List Nat} (hc:CovI P F n dp dl E F U gs Ls bs) (hF1:1≤F) {i g:Nat} {ls:List Nat} {b:Nat} (e1:gs[i]?=some g) (e2:Ls[i]?=some ls) (e3:bs[i]?=some b) (h:LayI P F n U wd N sg (YX F gs (i+1))) (hG:GateP N N' sg sg' wd g (ls.map (insG sg)) (bitG sg ls b ls.length) (bitG sg ls b ls.length ^^^ allB ls.length)):LayI P F n U wd N' sg' (YX F gs i):=by
 obtain ⟨t1,t2,t3,t4⟩:=hc.tab i g ls b e1 e2 e3
 obtain ⟨_,g2,g3,g4⟩:=hc.gin g (List.mem_of_getElem? e1)
 have:=h.gate (fun u hu=>Or.inl hu) g2 g3 hF1 t1 t4 (fun u hu=>⟨(t2 u hu).1,fun hFu=>?_⟩) t3 g4 hG
 ·refine this.mono fun u hu=>?_
  rcases hu with hu | ⟨j,hj,hju⟩
  ·exact Or.inl (Or.inl hu)
  ·by_cases e:j=i
   ·subst e
    rw [e1] at hju
    exact Or.inr (Option.some.inj hju).symm
   ·exact Or.inl (Or.inr ⟨j,by omega,hju⟩)
 ·obtain ⟨k1,k2⟩:=(t2 u hu).2 hFu
  have k3:=(t2 u hu).1
  refine ⟨Or.inr ?_,k1,k2⟩
  obtain ⟨j,hj⟩:=List.getElem?_of_mem (hc.all u hFu hFu (by omega) k1)
  refine ⟨j,?_,hj⟩
  apply Nat.lt_of_not_le
  intro hle
  by_cases e:j=i
  ·subst e;rw [e1] at hj;have:=Option.some.inj hj;omega
  ·have:=List.pairwise_iff_getElem.1 hc.dec j i (List.getElem?_eq_some_iff.1 hj).1 (List.getElem?_eq_some_iff.1 e1).1 (by omega)
   rw [(List.getElem?_eq_some_iff.1 hj).2,(List.getElem?_eq_some_iff.1 e1).2] at this
   omega
def LaidO (P:(Nat→Bool)→Prop) (F n:Nat) (U:Nat→Nat) (G:GrD) (N:L.NtD):Prop:=∃ (sg:Nat→Int) (NL:NetL) (gs:List Nat),LayI P F n U (wdA (endL G)) NL sg (YX F gs 0)∧(∀ u,F≤u→u<n→0<U u→u ∈ gs)∧NL.tabs.length≤300000∧NL.ni=G.ins∧NL.init=G.lats.map LatD.init∧N=⟨G.ins,G.lats.map LatD.init,NL.tabs,G.lats.map fun l=>sg l.next.toNat,G.outs.map fun o=>sg o.toNat⟩
theorem LyAt.net {C:Nat} {w:World} {D:LyS} {N:NetL} {sg:Nat→Int} {wd:Nat→Bool} {iv tv nv ov:Value} (h:LyAt C w D N sg wd iv tv nv ov) (h1:N.init.length<L.huge) (h2:N.tabs.length<L.big) (h3:N.next.length<L.big) (h4:N.outs.length<L.big) (h5:∀ d,d ∈ N.tabs→d.ins.length<L.big):∃ T:L.NtS,iv = .slice T.a1 N.init.length T.c1∧tv = .slice T.a2 N.tabs.length T.c2∧nv = .slice T.a3 N.next.length T.c3∧ov = .slice T.a4 N.outs.length T.c4∧(∀ w',LyAt C w' D N sg wd iv tv nv ov→L.NtAt w'.heap.size w' T ⟨N.ni,N.init,N.tabs,N.next,N.outs⟩)∧(T.a1=none→T.c1=0∧N.init=[]):=by
 have fm:∀ {α:Type} (f:α→Value) (l:List α),l.map f=(l.map fun x=>[f x]).flatten:=fun f l=>by
  induction l with
  | nil=>rfl
  | cons a r ih=>simp [ih]
 obtain ⟨a1,c1,e1⟩:=own_sl h.oi
 obtain ⟨a2,c2,e2⟩:=own_sl h.ot
 obtain ⟨a3,c3,e3⟩:=own_sl h.on
 obtain ⟨a4,c4,e4⟩:=own_sl h.oo
 refine ⟨⟨a1,c1,a2,c2,a3,c3,a4,c4⟩,e1,e2,e3,e4,fun w' h=>?_,fun hn=>?_⟩
 ·have oi:=h.oi
  rw [fm,e1] at oi
  have on:=h.on
  rw [fm,e3] at on
  have oo:=h.oo
  rw [fm,e4] at oo
  have ot:=h.ot
  rw [List.flatMap_def,e2] at ot
  obtain ⟨b1,d1,g1,r1⟩:=own_row oi (by intro l hl;obtain ⟨d,_,rfl⟩:=List.mem_map.1 hl;rfl) (by decide)
  obtain ⟨b2,d2,g2,r2⟩:=own_row ot (by intro l hl;obtain ⟨d,_,rfl⟩:=List.mem_map.1 hl;rfl) (by decide)
  obtain ⟨b3,d3,g3,r3⟩:=own_row on (by intro l hl;obtain ⟨d,_,rfl⟩:=List.mem_map.1 hl;rfl) (by decide)
  obtain ⟨b4,d4,g4,r4⟩:=own_row oo (by intro l hl;obtain ⟨d,_,rfl⟩:=List.mem_map.1 hl;rfl) (by decide)
  simp only [Value.slice.injEq,true_and] at g1 g2 g3 g4
  obtain ⟨rfl,rfl⟩:=g1
  obtain ⟨rfl,rfl⟩:=g2
  obtain ⟨rfl,rfl⟩:=g3
  obtain ⟨rfl,rfl⟩:=g4
  refine ⟨r1,r2,fun d hd=>?_,r3,r4,h1,h2,h5,h3,h4⟩
  have ok:=(h.ti d hd).1
  rw [fm] at ok
  obtain ⟨a5,c5,e5,r5⟩:=own_row ok (by intro l hl;obtain ⟨x,_,rfl⟩:=List.mem_map.1 hl;rfl) (by decide)
  unfold tcl at e5
  simp only [Value.slice.injEq,true_and] at e5
  rw [e5.1]
  exact r5
 ·have hn':a1=none:=hn
  subst hn'
  rcases h.oi.2 with ⟨e,h0⟩ | ⟨g,cap,cur,e,_⟩
  ·rw [e1] at e
   simp only [Value.slice.injEq] at e
   exact ⟨e.2.2,List.eq_nil_of_length_eq_zero h0⟩
  ·rw [e1] at e
   simp only [Value.slice.injEq] at e
   cases e.1
theorem LyAt.but {C r:Nat} {w w':World} {D:LyS} {N:NetL} {sg:Nat→Int} {wd:Nat→Bool} {iv tv nv ov:Value} (h:LyAt C w D N sg wd iv tv nv ov) (hb:But r w w') (hr:r<C) (h1:r≠D.lb∧r≠D.sb∧r≠D.qb):LyAt C w' D N sg wd iv tv nv ov:=by
 have nx:∀ {e sz n:Nat} {x:Value} {xs:List Value},w.ownsRow C e sz x n xs→w'.ownsRow C e sz x n xs:=fun hx=>own_kept hx hb.grown (new_ne (own_newB hx) hr)
 exact ⟨hb.blk h.bk (Ne.symm h1.1),hb.blk h.sg (Ne.symm h1.2.1),hb.blk h.wd (Ne.symm h1.2.2),nx h.oi,nx h.ot,nx h.on,nx h.oo,fun d hd=>⟨nx (h.ti d hd).1,(h.ti d hd).2⟩,h.f1,h.f2,h.f3,h.f4,h.f5,h.f6,h.lt,Nat.le_trans h.le hb.size,h.ne⟩
theorem RowAt.one {w:World} {b:Nat} {x:Int} (h:Blk w b 3 #[.int .i64 x]):RowAt w.heap.size w (some ⟨b,0,none⟩) 1 (([x]:List Int).map intC):=fun _=>by
 refine ⟨b,0,rfl,h.lt,fun i el hi j v hv=>?_⟩
 cases i with
 | zero =>
  have e:intC x=el:=by simpa using hi
  rw [←e] at hv
  cases j with
  | zero =>
   have e2:Value.int .i64 x=v:=by simpa [intC] using hv
   rw [←e2]
   exact h.cell (i:=0) rfl
  | succ j=>simp [intC] at hv
 | succ i=>simp at hi
theorem set5 {w:World} {b:Nat} {o0 o1 o2 o3 o4:Value} (h0:w.cell? ⟨b,0,none⟩=some o0) (h1:w.cell? ⟨b,1,none⟩=some o1) (h2:w.cell? ⟨b,2,none⟩=some o2) (h3:w.cell? ⟨b,3,none⟩=some o3) (h4:w.cell? ⟨b,4,none⟩=some o4) (x0 x1 x2 x3 x4:Value) :
  (((((w.setCell ⟨b,0,none⟩ x0).setCell ⟨b,1,none⟩ x1).setCell ⟨b,2,none⟩ x2).setCell ⟨b,3,none⟩ x3).setCell ⟨b,4,none⟩ x4).cell? ⟨b,0,none⟩=some x0∧(((((w.setCell ⟨b,0,none⟩ x0).setCell ⟨b,1,none⟩ x1).setCell ⟨b,2,none⟩ x2).setCell ⟨b,3,none⟩ x3).setCell ⟨b,4,none⟩ x4).cell? ⟨b,1,none⟩=some x1∧(((((w.setCell ⟨b,0,none⟩ x0).setCell ⟨b,1,none⟩ x1).setCell ⟨b,2,none⟩ x2).setCell ⟨b,3,none⟩ x3).setCell ⟨b,4,none⟩ x4).cell? ⟨b,2,none⟩=some x2∧(((((w.setCell ⟨b,0,none⟩ x0).setCell ⟨b,1,none⟩ x1).setCell ⟨b,2,none⟩ x2).setCell ⟨b,3,none⟩ x3).setCell ⟨b,4,none⟩ x4).cell? ⟨b,3,none⟩=some x3∧(((((w.setCell ⟨b,0,none⟩ x0).setCell ⟨b,1,none⟩ x1).setCell ⟨b,2,none⟩ x2).setCell ⟨b,3,none⟩ x3).setCell ⟨b,4,none⟩ x4).cell? ⟨b,4,none⟩=some x4:=by
 have n:∀ i j:Nat,i≠j→(⟨b,i,none⟩:Addr)≠⟨b,j,none⟩:=fun i j h e=>h (by injection e)
 have o:∀ (w:World) (i j:Nat) (x:Value),i≠j→(w.setCell ⟨b,i,none⟩ x).cell? ⟨b,j,none⟩=w.cell? ⟨b,j,none⟩:=fun w i j x h=>by apply World.cell?_setCell_other;exact n i j h
 have s:∀ (w:World) (i:Nat) (x y:Value),w.cell? ⟨b,i,none⟩=some y→(w.setCell ⟨b,i,none⟩ x).cell? ⟨b,i,none⟩=some x:=fun w i x y h=>by apply World.cell?_setCell_same;exact h
 refine ⟨?_,?_,?_,?_,?_⟩
 ·rw [o _ 4 0 _ (by decide),o _ 3 0 _ (by decide),o _ 2 0 _ (by decide),o _ 1 0 _ (by decide)];exact s _ _ _ _ h0
 ·rw [o _ 4 1 _ (by decide),o _ 3 1 _ (by decide),o _ 2 1 _ (by decide)];exact s _ _ _ o1 (by rw [o _ 0 1 _ (by decide)];exact h1)
 ·rw [o _ 4 2 _ (by decide),o _ 3 2 _ (by decide)];exact s _ _ _ o2 (by rw [o _ 1 2 _ (by decide),o _ 0 2 _ (by decide)];exact h2)
 ·rw [o _ 4 3 _ (by decide)];exact s _ _ _ o3 (by rw [o _ 2 3 _ (by decide),o _ 1 3 _ (by decide),o _ 0 3 _ (by decide)];exact h3)
 ·exact s _ _ _ o4 (by rw [o _ 3 4 _ (by decide),o _ 2 4 _ (by decide),o _ 1 4 _ (by decide),o _ 0 4 _ (by decide)];exact h4)
theorem set5_but (w:World) (b:Nat) (x0 x1 x2 x3 x4:Value):But b w (((((w.setCell ⟨b,0,none⟩ x0).setCell ⟨b,1,none⟩ x1).setCell ⟨b,2,none⟩ x2).setCell ⟨b,3,none⟩ x3).setCell ⟨b,4,none⟩ x4):=((((But.set b 0 w x0).trans (But.set b 1 _ x1)).trans (But.set b 2 _ x2)).trans (But.set b 3 _ x3)).trans (But.set b 4 _ x4)
set_option maxRecDepth 100000 in
set_option maxHeartbeats 8000000 in
theorem laid_any (P:(Nat→Bool)→Prop) (hP:∀ val,P val→val 0=false) (B:Nat) (w:World) (gb:Nat) (S:GrS) (G:GrD) (ni n:Nat) (hF:FineG G ni n) (h:GIn B w gb S G) (hnil:S.a3=none→S.c3=0) (DC:ChS) (CC:Nat) (U:Nat→Nat) (gs:List Nat) (Ls:List (List Nat)) (bs:List Nat) (gv lv ev bv:Value) (hcv:CvAt CC w DC U gs Ls bs gv lv ev bv) (dp:Nat→Nat) (dl:Nat) (E:Nat→Prop) (hci:CovI P (firstN G) n dp dl E (firstN G) U gs Ls bs) :
  Calls Try.prog 20 #[.pointer (some ⟨gb,0,none⟩),.pointer (some ⟨DC.cb,4,none⟩)] w fun e w'=>∃ (T:L.NtS) (N:L.NtD),e = .returned (.agg (T.cells N))∧Hid (∀ (r:Nat) (v:World),r<w.heap.size→But r w' v→L.NtAt v.heap.size v T N)∧Hid (T.a1=none→T.c1=0∧N.init=[])∧Hid (LaidO P (firstN G) n U G N)∧Hid (Bl w w'):=by
 have HG:Hid (∀ v:World,Bl w v→GIn B v gb S G):=fun v hv=>h.to (hv.mono h.le)
 have hgw:gb<w.heap.size:=Nat.lt_of_lt_of_le h.lt h.le
 have hN6:n≤60000:=hF.le
 have hall:=hF.all
 have hins:=hF.ins
 have hll:=hF.ll
 have hfi:=hF.first
 have HFG:Hid (∀ v:World,Bl w v→Calls Try.prog 35 #[.pointer (some ⟨gb,0,none⟩)] v fun e w'=>e = .returned (.int .i64 (firstN G:Nat))∧Bl v w'):=fun v hv=>first_any v gb S G ni n hF (HG.out v hv).bx
 have HNL:Hid (∀ v:World,Bl w v→Calls Try.prog 34 #[.pointer (some ⟨gb,0,none⟩)] v fun e w'=>∃ (D:LyS) (C:Nat) (iv:Value),e = .returned (.pointer (some ⟨D.lb,0,none⟩))∧(v.heap.size≤D.lb∧v.heap.size≤D.sb∧v.heap.size≤D.qb)∧D.M=2*n∧Hid (LyAt C w' D ⟨G.ins,G.lats.map LatD.init,[],[],[]⟩ (sgA (firstN G) (firstN G)) (wdA (endL G)) iv (.slice none 0 0) (.slice none 0 0) (.slice none 0 0))∧Hid (Bl v w')):=fun v hv=>newLayout_any B v gb S G ni n hF (HG.out v hv) hnil
 obtain ⟨F,EF⟩:=exh (firstN G)
 rw [←EF.out] at HFG HNL hci hall hfi
 rw [←EF.out]
 have hF1:1≤F:=by rw [EF.out];unfold firstN;omega
 obtain ⟨wd,Ewd⟩:=exh (wdA (endL G))
 rw [←Ewd.out] at HNL
 obtain ⟨inits,Einits⟩:=exh (G.lats.map LatD.init)
 rw [←Einits.out] at HNL
 have HIL:Hid (inits.length=G.lats.length):=by show _=_;rw [Einits.out,List.length_map]
 rw [hins] at HNL
 have HSL:Hid (LayI P F n U wd ⟨(ni:Int),inits,[],[],[]⟩ (sgA F F) fun u=>u<1):=LayI.start hP hF1 U wd (by show 2+(ni:Int)+(inits.length:Int)=_;rw [HIL.out];omega) rfl
 have HCI:=hidden hci
 have HCV:=hidden hcv
 have HINS:=hidden hins
 have HHF:=hidden hF
 have hni6:ni≤60000:=by omega
 clear h hF hnil hcv hci hins hfi
 go_enter Try.func20,Try.ntmps20
 go_upto_region 1 with fail
 obtain ⟨rb,Erb⟩:=exh w.heap.size
 obtain ⟨w0,Ew0⟩:=exh (w.alloc (.cells #[.int .i64 0,.slice none 0 0,.slice none 0 0,.slice none 0 0,.slice none 0 0] 34))
 have HB0:Hid (Bl w w0):=by rw [Ew0.out];exact (Below.refl _ _).alloc (Nat.le_refl _) _
 have HKR:Hid (Blk w0 rb 34 #[.int .i64 0,.slice none 0 0,.slice none 0 0,.slice none 0 0,.slice none 0 0]):=by rw [Ew0.out,Erb.out];exact Blk.new _ _ _
 rw [←Erb.out,←Ew0.out]
 have NL:=hidden (HNL.out w0 HB0.out)
 have hW0:w.heap.size<w0.heap.size:=by rw [←Erb.out];exact HKR.out.lt
 obtain ⟨C0,EC0⟩:=exh w0.heap.size
 rw [←EC0.out] at NL hW0
 go_wp2_with fail
 go_at_call 34
 refine NL.out.mono ?_
 rintro e w1 ⟨D,C,iv,rfl,⟨hlb,hsb,hqb⟩,hDM,HLY1,HB1⟩
 obtain ⟨lb,Elb⟩:=exh D.lb
 obtain ⟨sb,Esb⟩:=exh D.sb
 obtain ⟨qb,Eqb⟩:=exh D.qb
 obtain ⟨M,EM⟩:=exh D.M
 have HLB:Hid (D.lb=lb∧D.sb=sb∧D.qb=qb∧D.M=M):=⟨Elb.out.symm,Esb.out.symm,Eqb.out.symm,EM.out.symm⟩
 rw [←Elb.out] at hlb
 rw [←Esb.out] at hsb
 rw [←Eqb.out] at hqb
 rw [←EM.out] at hDM
 have HDM:=hidden hDM
 rw [←Elb.out]
 have HBX:Hid (Below C0 w0 w1):=by rw [EC0.out];exact HB1.out
 have HUP:Hid (∀ x:World,Below C0 w0 x→Bl w x):=fun x hx=>HB0.out.trans (hx.mono (Nat.le_of_lt hW0))
 have HTR:Hid (∀ x y:World,Below C0 w0 x→Bl x y→Below C0 w0 y):=fun x y hx hy=>hx.trans (hy.mono (by rw [EC0.out];exact hx.size))
 have HCS:Hid (∀ (x:World) (N:NetL) (sg:Nat→Int) (tv nv ov:Value),LyAt C x D N sg wd iv tv nv ov→(x.cell? ⟨lb,5,none⟩=some (.slice (some ⟨sb,0,none⟩) M M)∧x.cell? ⟨lb,6,none⟩=some (.slice (some ⟨qb,0,none⟩) M M))∧(∀ l,l<M→x.cell? ⟨sb,l,none⟩=some (.int .i64 (sg l))∧x.frozen? ⟨sb,l,none⟩=false)∧(∀ l,l<M→x.cell? ⟨qb,l,none⟩=some (.bool (wd l))∧x.frozen? ⟨qb,l,none⟩=false)):=fun x N sg tv nv ov hx=>by
  have hb:=hx.bk
  have hs:=hx.sg
  have hq:=hx.wd
  rw [HLB.out.1,HLB.out.2.1,HLB.out.2.2.1,HLB.out.2.2.2] at hb
  rw [HLB.out.2.1,HLB.out.2.2.2] at hs
  rw [HLB.out.2.2.1,HLB.out.2.2.2] at hq
  exact ⟨⟨hb.cell (i:=5) rfl,hb.cell (i:=6) rfl⟩,fun l hl=>⟨hs.cell (tab_get hl),hs.frozen l⟩,fun l hl=>⟨hq.cell (tab_get hl),hq.frozen l⟩⟩
 clear NL HNL HB1 Elb Esb Eqb EM Ew0 hDM
 go_wp2_with fail
 go_loopw [6] (fun v' w'=>∃ (v:Nat) (N:NetL) (sg:Nat→Int) (tv:Value),1≤v∧v≤F∧v' = .int .i64 (v:Int)∧N.tabs.length≤v∧Hid (N.ni=(ni:Int)∧N.init=inits∧N.next=[]∧N.outs=[])∧Hid (LyAt C w' D N sg wd iv tv (.slice none 0 0) (.slice none 0 0))∧Hid (LayI P F n U wd N sg fun u=>u<v)∧Hid (Below C0 w0 w')) (fun v' _=>F - (intOf v').toNat)
 case atStart=>exact ⟨1,_,_,_,Nat.le_refl _,hF1,rfl,Nat.zero_le _,⟨rfl,rfl,rfl,rfl⟩,HLY1.out,HSL.out,HBX.out⟩
 case round =>
  clear HLY1 HSL HBX
  obtain ⟨v,N,sg,tv,hv1,hvF,rfl,hNt,HN,HLY,HLI,HB⟩:=hrel
  have FG:=hidden (HFG.out wr (HUP.out _ HB.out))
  go_wp2_with fail
  go_at_call 35
  refine FG.out.mono ?_
  rintro e wf ⟨rfl,hbf⟩
  have HLF:=hidden (HLY.out.to hbf)
  have HBF:=hidden (HTR.out _ _ HB.out hbf)
  clear hbf HLY HB FG
  obtain ⟨⟨k5,k6⟩,ks,kq⟩:=HCS.out _ _ _ _ _ _ HLF.out
  by_cases hlt:v<F
  ·have hltI:(v:Int)<(F:Int):=by omega
   obtain ⟨m0,Em0⟩:=exh (2*v)
   obtain ⟨m1,Em1⟩:=exh (m0+1)
   have e4:IntKind.i64.wrap (2*(v:Int))=(m0:Int):=by rw [wrapI _ (by omega) (by omega)];have:=Em0.out;omega
   have e5:IntKind.i64.wrap ((m0:Int)+1)=(m1:Int):=by rw [wrapI _ (by have:=Em0.out;omega) (by have:=Em0.out;omega)];have:=Em1.out;omega
   have e6:IntKind.i64.wrap ((v:Int)+1)=(v:Int)+1:=wrapI _ (by omega) (by omega)
   have hm0:m0<M:=by have:=Em0.out;have:=HDM.out;omega
   have hm1:m1<M:=by have:=Em0.out;have:=Em1.out;have:=HDM.out;omega
   have hm0I:(m0:Int)<(M:Int):=by omega
   have hm1I:(m1:Int)<(M:Int):=by omega
   obtain ⟨q1,-⟩:=kq m1 hm1
   obtain ⟨s0,-⟩:=ks m0 hm0
   obtain ⟨a,Ea⟩:=exh (wd m1)
   rw [←Ea.out] at q1
   obtain ⟨z0,Ez0⟩:=exh (sg m0)
   rw [←Ez0.out] at s0
   clear kq ks
   cases a
   ·have HL2:=hidden (HLI.out.source hv1 hlt (by omega) (Or.inr ⟨by rw [←Em0.out,←Em1.out];exact Ea.out.symm,rfl,rfl⟩))
    go_wp2
    go_roundw
    case measure=>simp [intOf];omega
    case rel=>exact ⟨v+1,N,sg,tv,by omega,by omega,by simp,by omega,HN.out,HLF.out,HL2.out,HBF.out⟩
   ·have hxt:=hidden (fun x (hx:Bl wf x)=>HLF.out.to hx)
    go_wp2_with fail
    refine wp_region_noPanic ?_
    refine wp_region_held_drew (S:=fun wz=>wz.cell? ⟨lb,5,none⟩=some (.slice (some ⟨sb,0,none⟩) M M)∧wz.cell? ⟨sb,m0,none⟩=some (.int .i64 z0)) (by kernel_rfl) (by exact ⟨k5,s0⟩) (fun hHeld=>?_)
    refine tk 0 ?_
    refine tk 1 ?_
    refine tk 2 ?_
    refine tk 3 ?_
    refine tk 4 ?_
    refine tk 5 ?_
    refine tk 6 ?_
    refine tk 7 ?_
    refine tk 8 ?_
    refine tk 9 ?_
    refine tk 10 ?_
    refine tk 11 ?_
    refine tk 12 ?_
    refine tk 13 ?_
    refine tk 14 ?_
    refine tk 15 ?_
    refine rd 16 fun K hK=>?_
    (try simp only [gA,gB,gC]);go_simp
    obtain ⟨yb,Eyb⟩:=exh wf.heap.size
    rw [←Eyb.out]
    have HKc:Hid (Blk (wf.alloc (.cells #[.int .i64 z0] 3)).drew yb 3 #[.int .i64 z0]):=by rw [Eyb.out];exact (Blk.new wf _ _).drew
    have HQc:Hid (Bl wf (wf.alloc (.cells #[.int .i64 z0] 3)).drew):=Below.drew ((Below.refl _ _).alloc (Nat.le_refl _) _)
    generalize (wf.alloc (.cells #[.int .i64 z0] 3)).drew=xc at *
    have HLc:=hidden (hxt.out xc HQc.out)
    obtain ⟨⟨y5,-⟩,ys,-⟩:=HCS.out _ _ _ _ _ _ HLc.out
    obtain ⟨y0,-⟩:=ys m0 hm0
    rw [←Ez0.out] at y0
    have hNN:=HN.out
    have T1:=hidden (table_any C0 C xc D N sg wd iv tv (.slice none 0 0) (.slice none 0 0) HLc.out (by rw [HLB.out.1];exact hlb) yb 0 1 [z0] 1 (RowAt.one HKc.out) (by show 1≤1000000;decide) (by rw [hNN.1];omega) (by rw [hNN.2.1,HIL.out];omega) (by omega))
    rw [HLB.out.1] at T1
    obtain ⟨S1,ES1⟩:=exh (2+N.ni+N.init.length+N.tabs.length)
    rw [←ES1.out] at T1
    refine wo hK ⟨y5,y0⟩ fun _=>?_
    clear hK K Eyb hNN ys hxt
    refine rd 17 fun K hK=>?_
    (try simp only [gA,gB,gC]);go_simp
    go_at_call 36
    refine T1.out.mono ?_
    rintro e x5 ⟨d,tv1,rfl,hd1,hd2,HL5,HB5,-⟩
    obtain ⟨⟨y55,-⟩,ys5,-⟩:=HCS.out _ _ _ _ _ _ HL5.out
    obtain ⟨y05,-⟩:=ys5 m0 hm0
    obtain ⟨c5,f5⟩:=ys5 m1 hm1
    rw [←Ez0.out] at y05
    have h6:=HL5.out.sig m1 S1
    rw [HLB.out.2.1] at h6
    obtain ⟨⟨y56,-⟩,ys6,-⟩:=HCS.out _ _ _ _ _ _ h6
    obtain ⟨y06,-⟩:=ys6 m0 hm0
    rw [upd_ne (show m0≠m1 by have:=Em1.out;omega),←Ez0.out] at y06
    have HL6:=hidden h6
    have HT:Hid (TabP N { N with tabs:=N.tabs++[d] } sg (upd sg m1 S1) (2*v+1) [sg (2*v)] 1):=⟨d,by rw [hd1,Ez0.out,Em0.out],hd2,rfl,by rw [Em1.out,Em0.out,ES1.out]⟩
    have HLN:=hidden (HLI.out.source hv1 hlt (by omega) (Or.inl ⟨by rw [←Em0.out,←Em1.out];exact Ea.out.symm,HT.out⟩))
    have HB6:Hid (Below C0 w0 (x5.setCell ⟨sb,m1,none⟩ (.int .i64 S1))):=by
     have b1:=HTR.out _ _ HBF.out HQc.out
     have b2:=b1.trans HB5.out
     exact b2.trans ((But.set sb m1 x5 _).below hsb (by rw [EC0.out];exact b2.size))
    clear h6 ys5 ys6 T1 HT HL5 HB5 hd1 hd2
    go_wp2_with fail
    refine wo hK ⟨y55,y05⟩ fun _=>?_
    clear hK K
    refine tk 18 ?_
    refine rd 19 fun K hK=>?_
    (try simp only [gA,gB,gC]);go_simp
    refine wo hK ⟨y56,y06⟩ fun _=>?_
    clear hK K
    refine wpAnyH_done (by kernel_rfl) ?_ _
    refine NoPanic.normal ?_
    clear y55 y05 y56 y06 c5 f5 y5 y0 k5 k6 s0 q1
    go_wp2
    go_roundw
    case measure=>simp [intOf];omega
    case rel=>exact ⟨v+1,{ N with tabs:=N.tabs++[d] },upd sg m1 S1,tv1,by omega,by omega,by simp,by show (N.tabs++[d]).length≤v+1;rw [List.length_append,List.length_singleton];omega,HN.out,HL6.out,HLN.out,HB6.out⟩
  ·have hge:¬ (v:Int)<(F:Int):=by omega
   have hvF2:v=F:=by omega
   obtain ⟨nG,EL⟩:=exh gs.length
   have HLX:Hid (LayI P F n U wd N sg (YX F gs nG)):=by
    have:=HLI.out
    rw [hvF2] at this
    refine this.mono fun u hu=>?_
    rcases hu with hu | ⟨j,hj,hju⟩
    ·exact hu
    ·have:=(List.getElem?_eq_some_iff.1 hju).1
     have:=EL.out
     omega
   have hlen:=HCI.out.len
   rw [←EL.out] at hlen
   have HCV2:Hid (∀ x:World,Below C0 w0 x→CvAt CC x DC U gs Ls bs gv lv ev bv):=fun x hx=>HCV.out.to (HUP.out x hx)
   obtain ⟨_,hgr⟩:=own_row0 HCV.out.og
   obtain ⟨_,hbr⟩:=own_row0 HCV.out.ob
   obtain ⟨ga,gc,egv⟩:∃ ga gc,gv = .slice ga gs.length gc:=by
    rcases hgr with ⟨rfl,h0⟩ | ⟨g,cap,rfl,_⟩
    ·exact ⟨none,0,by rw [h0];rfl⟩
    ·exact ⟨_,_,rfl⟩
   obtain ⟨ba,bc,ebv⟩:∃ ba bc,bv = .slice ba gs.length bc:=by
    rw [←HCI.out.l2]
    rcases hbr with ⟨rfl,h0⟩ | ⟨g,cap,rfl,_⟩
    ·exact ⟨none,0,by rw [h0];rfl⟩
    ·exact ⟨_,_,rfl⟩
   rw [←EL.out] at egv ebv
   obtain ⟨cb,Ecb⟩:=exh DC.cb
   have HCB:Hid (∀ x:World,Below C0 w0 x→x.cell? ⟨cb,4,none⟩=some (.slice ga nG gc)∧x.cell? ⟨cb,7,none⟩=some (.slice ba nG bc)∧(∀ (i g:Nat),gs[i]?=some g→∃ gbk,ga=some ⟨gbk,0,none⟩∧x.cell? ⟨gbk,i,none⟩=some (.int .i64 (g:Nat)))∧(∀ (i b:Nat),bs[i]?=some b→∃ bbk,ba=some ⟨bbk,0,none⟩∧x.cell? ⟨bbk,i,none⟩=some (.int .i64 (b:Nat)))):=fun x hx=>by
    have hc:=HCV2.out x hx
    have k4:=hc.ch.bk.cell (i:=4) rfl
    have k7:=hc.ch.bk.cell (i:=7) rfl
    rw [Ecb.out,←egv,←ebv]
    refine ⟨k4,k7,fun i g hi=>?_,fun i b hi=>?_⟩
    ·rcases (own_row0 hc.og).2 with ⟨_,h0⟩ | ⟨gg,cap,e,_,hcc⟩
     ·rw [h0] at hi;simp at hi
     ·rw [egv] at e
      simp only [Value.slice.injEq] at e
      exact ⟨gg,e.1,hcc i g hi⟩
    ·rcases (own_row0 hc.ob).2 with ⟨_,h0⟩ | ⟨gg,cap,e,_,hcc⟩
     ·rw [h0] at hi;simp at hi
     ·rw [ebv] at e
      simp only [Value.slice.injEq] at e
      exact ⟨gg,e.1,hcc i b hi⟩
   have e7:IntKind.i64.wrap ((nG:Int) - 1)=(nG:Int) - 1:=wrapI _ (by omega) (by omega)
   rw [←Ecb.out]
   obtain ⟨k4,-,-,-⟩:=HCB.out _ HBF.out
   clear hgr hbr egv ebv HLI k5 k6 ks kq
   go_wp2_with fail
   clear k4
   go_loopw [7] (fun v' w'=>∃ (x:Nat) (y:Int) (N:NetL) (sg:Nat→Int) (tv:Value),x≤nG∧v' = .int .i64 y∧y=(x:Int) - 1∧N.tabs.length+2*x≤60000+2*nG∧Hid (N.ni=(ni:Int)∧N.init=inits∧N.next=[]∧N.outs=[])∧Hid (LyAt C w' D N sg wd iv tv (.slice none 0 0) (.slice none 0 0))∧Hid (LayI P F n U wd N sg (YX F gs x))∧Hid (Below C0 w0 w')) (fun v' _=>(intOf v'+1).toNat)
   case atStart=>exact ⟨nG,_,N,sg,tv,Nat.le_refl _,rfl,rfl,by omega,HN.out,HLF.out,HLX.out,HBF.out⟩
   case round =>
    clear HN HLF HLX HBF hNt
    obtain ⟨x,y,N2,sg2,tv2,hxL,rfl,hy,hNt,HN,HLY,HLI,HB⟩:=hrel
    obtain ⟨k4,k7,kg,kb⟩:=HCB.out _ HB.out
    by_cases hx:0<x
    ·obtain ⟨i,rfl⟩:∃ i,x=i+1:=⟨x - 1,by omega⟩
     obtain rfl:y=(i:Int):=by omega
     have hiI:(0:Int)≤(i:Int):=by omega
     have hiL:i<nG:=by omega
     have hiLI:(i:Int)<(nG:Int):=by omega
     obtain ⟨g,hg⟩:=getElem_lt (show i<gs.length by rw [←EL.out];exact hiL)
     obtain ⟨ls,hls⟩:=getElem_lt (show i<Ls.length by rw [HCI.out.l1,←EL.out];exact hiL)
     obtain ⟨b,hb⟩:=getElem_lt (show i<bs.length by rw [HCI.out.l2,←EL.out];exact hiL)
     obtain ⟨gk,ega,cg⟩:=kg i g hg
     obtain ⟨bk,eba,cbb⟩:=kb i b hb
     obtain ⟨t1,t2,t3,t4⟩:=HCI.out.tab i g ls b hg hls hb
     obtain ⟨-,g2,g3,-⟩:=HCI.out.gin g (List.mem_of_getElem? hg)
     have hb6:b<65536:=by
      have h1:2 ^ ls.length≤16:=Nat.pow_le_pow_right (n:=2) (j:=4) (by omega) t1
      have h2:(2:Nat) ^ 2 ^ ls.length≤2 ^ 16:=Nat.pow_le_pow_right (by omega) h1
      omega
     have AT:=hidden (cvat_any (HCV2.out _ (Below.drew HB.out)) hls (by omega))
     rw [←Ecb.out] at AT
     have hNN:=HN.out
     have e6:IntKind.i64.wrap ((i:Int) - 1)=(i:Int) - 1:=wrapI _ (by omega) (by omega)
     have HGA:Hid (∀ (xx:World) (la:Option Addr),Bl wr xx→NumR xx la ls→Calls Try.prog 37 #[.pointer (some ⟨lb,0,none⟩),.int .i64 (g:Nat),.slice la ls.length ls.length,.int .i64 (b:Nat)] xx fun e w'=>∃ (N3:NetL) (sg3:Nat→Int) (tv3:Value),(∃ q,e = .returned q)∧Hid (GateP N2 N3 sg2 sg3 wd g (ls.map (insG sg2)) (bitG sg2 ls b ls.length) (bitG sg2 ls b ls.length ^^^ (allB ls.length)))∧Hid (LyAt C w' D N3 sg3 wd iv tv3 (.slice none 0 0) (.slice none 0 0))∧Hid (Below C0 xx w')):=fun xx la hxx hnum=>by
      have:=gate_any C0 C xx D N2 sg2 wd iv tv2 (.slice none 0 0) (.slice none 0 0) (HLY.out.to hxx) g la ls.length ls hnum t1 b hb6 (fun u hu=>by rw [HLB.out.2.2.2];have:=(t2 u hu).1;have:=HDM.out;omega) (by rw [HLB.out.2.2.2];have:=HDM.out;omega) ⟨by rw [HLB.out.1];exact hlb,by rw [HLB.out.2.1];exact hsb⟩ (by rw [HLB.out.2.2.2];have:=HDM.out;omega) (by rw [hNN.1];omega) (by rw [hNN.2.1,HIL.out];omega) (by omega)
      rw [HLB.out.1] at this
      exact this
     have HGX:Hid (∀ (N3:NetL) (sg3:Nat→Int),GateP N2 N3 sg2 sg3 wd g (ls.map (insG sg2)) (bitG sg2 ls b ls.length) (bitG sg2 ls b ls.length ^^^ (allB ls.length))→LayI P F n U wd N3 sg3 (YX F gs i)):=fun N3 sg3 hG=>LayI.gateX HCI.out hF1 hg hls hb HLI.out hG
     have HSK:Hid (∀ xx:World,Below C0 w0 xx→(xx.cell? ⟨cb,4,none⟩=some (.slice ga nG gc)∧xx.cell? ⟨gk,i,none⟩=some (.int .i64 (g:Nat))∧xx.cell? ⟨cb,7,none⟩=some (.slice ba nG bc)∧xx.cell? ⟨bk,i,none⟩=some (.int .i64 (b:Nat)))):=fun xx hxx=>by
      obtain ⟨j4,j7,jg,jb⟩:=HCB.out _ hxx
      obtain ⟨g',e',c'⟩:=jg i g hg
      obtain ⟨b',e'',c''⟩:=jb i b hb
      rw [ega] at e'
      rw [eba] at e''
      simp only [Option.some.injEq,Addr.mk.injEq,and_true] at e' e''
      subst e'
      subst e''
      exact ⟨j4,c',j7,c''⟩
     subst ega
     subst eba
     obtain ⟨nls,Enls⟩:=exh ls.length
     rw [←Enls.out] at AT HGA HGX
     clear kg kb hg hls hb t1 t2 t3 t4 hNN HLY HLI hy
     go_wp2_with fail
     refine wp_region_noPanic ?_
     refine wp_region_held_drew (S:=fun wz=>wz.cell? ⟨cb,4,none⟩=some (.slice (some ⟨gk,0,none⟩) nG gc)∧wz.cell? ⟨gk,i,none⟩=some (.int .i64 (g:Int))∧wz.cell? ⟨cb,7,none⟩=some (.slice (some ⟨bk,0,none⟩) nG bc)∧wz.cell? ⟨bk,i,none⟩=some (.int .i64 (b:Int))) (by kernel_rfl) (by exact ⟨k4,cg,k7,cbb⟩) (fun hHeld=>?_)
     refine tk 0 ?_
     refine tk 1 ?_
     refine tk 2 ?_
     refine tk 3 ?_
     refine tk 4 ?_
     refine tk 5 ?_
     refine tk 6 ?_
     refine tk 7 ?_
     refine tk 8 ?_
     refine tk 9 ?_
     refine tk 10 ?_
     refine tk 11 ?_
     refine tk 13 ?_
     refine tk 14 ?_
     refine tk 15 ?_
     refine tk 16 ?_
     refine tk 17 ?_
     refine tk 18 ?_
     refine tk 19 ?_
     refine rd 12 fun K hK=>?_
     (try simp only [gA,gB,gC]);go_simp
     go_at_call 38
     refine AT.out.mono ?_
     rintro e x5 ⟨⟨la,rfl,hnum⟩,hb5⟩
     have HX5:=hidden (HTR.out _ _ (Below.drew HB.out) hb5)
     have GA:=hidden (HGA.out x5 la (Bl.tr (Below.drew (Below.refl _ _)) hb5) (hnum.to hb5))
     clear AT HGA hnum hb5
     go_wp2_with fail
     refine wo hK (HSK.out x5 HX5.out) fun _=>?_
     clear hK K
     refine rd 20 fun K hK=>?_
     (try simp only [gA,gB,gC]);go_simp
     go_at_call 37
     refine GA.out.mono ?_
     rintro e x6 ⟨N3,sg3,tv3,⟨q6,rfl⟩,HG6,HL6,HB6⟩
     have HX6:Hid (Below C0 w0 x6):=HX5.out.trans HB6.out
     have HLX:=hidden (HGX.out N3 sg3 HG6.out)
     have HKP:=hidden (gateP_keep HG6.out)
     clear GA HG6 HB6 HGX
     go_wp2_with fail
     refine wo hK (HSK.out x6 HX6.out) fun _=>?_
     clear hK K
     refine wpAnyH_done (by kernel_rfl) ?_ _
     refine NoPanic.normal ?_
     clear k4 k7 cg cbb HSK
     go_wp2
     go_roundw
     case measure=>simp [intOf]
     case rel =>
      have hkp:=HKP.out
      exact ⟨i,_,N3,sg3,tv3,by omega,rfl,rfl,by have:=hkp.2.2.2.2;omega,by have:=HN.out;exact ⟨hkp.1.trans this.1,hkp.2.1.trans this.2.1,hkp.2.2.1.trans this.2.2.1,hkp.2.2.2.1.trans this.2.2.2⟩,HL6.out,HLX.out,HX6.out⟩
    ·obtain rfl:x=0:=by omega
     have hge2:¬ (0:Int)≤y:=by omega
     obtain ⟨NN,ENN⟩:∃ NN:Nat→Nat→NetL,Hid (NN=fun k j=>⟨(ni:Int),inits,N2.tabs,(G.lats.take k).map (fun l=>sg2 l.next.toNat),(G.outs.take j).map (fun o=>sg2 o.toNat)⟩):=⟨_,rfl⟩
     have HL0:Hid (LyAt C wr D (NN 0 0) sg2 wd iv tv2 (.slice none 0 0) (.slice none 0 0)):=by
      have e:NN 0 0=N2:=by
       rw [ENN.out]
       obtain ⟨a,b,c,d⟩:=HN.out
       have key:(⟨N2.ni,N2.init,N2.tabs,N2.next,N2.outs⟩:NetL)=N2:=rfl
       rw [a,b,c,d] at key
       exact key
      rw [e];exact HLY.out
     have hNN:∀ k j,(NN k j).next=(G.lats.take k).map (fun l=>sg2 l.next.toNat)∧(NN k j).outs=(G.outs.take j).map (fun o=>sg2 o.toNat):=fun k j=>by rw [ENN.out];exact ⟨rfl,rfl⟩
     have HN1:Hid (∀ (k:Nat) (d:LatD),G.lats[k]?=some d→{ NN k 0 with next:=(NN k 0).next++[sg2 d.next.toNat] } = NN (k+1) 0):=fun k d hd=>by
      rw [ENN.out]
      show (⟨_,_,_,(G.lats.take k).map (fun l=>sg2 l.next.toNat)++[sg2 d.next.toNat],_⟩:NetL)=⟨_,_,_,(G.lats.take (k+1)).map (fun l=>sg2 l.next.toNat),_⟩
      rw [take_next _ _ _ hd,List.map_append];rfl
     have HN2:Hid (∀ (m k:Nat) (z:Int),G.outs[k]?=some z→{ NN m k with outs:=(NN m k).outs++[sg2 z.toNat] } = NN m (k+1)):=fun m k z hd=>by
      rw [ENN.out]
      show (⟨_,_,_,_,(G.outs.take k).map (fun o=>sg2 o.toNat)++[sg2 z.toNat]⟩:NetL)=⟨_,_,_,_,(G.outs.take (k+1)).map (fun o=>sg2 o.toNat)⟩
      rw [take_next _ _ _ hd,List.map_append];rfl
     obtain ⟨nl,Enl⟩:=exh G.lats.length
     obtain ⟨no,Eno⟩:=exh G.outs.length
     have HLK:Hid (∀ k j,(k≤nl→(NN k j).next.length=k)∧(j≤no→(NN k j).outs.length=j)):=fun k j=>by
      rw [(hNN k j).1,(hNN k j).2,List.length_map,List.length_map,List.length_take,List.length_take,←Enl.out,←Eno.out]
      omega
     rw [←Enl.out] at hll
     have hlo:no≤60000:=by rw [Eno.out];exact HHF.out.lo
     obtain ⟨a1,Ea1⟩:=exh S.a1
     obtain ⟨a3,Ea3⟩:=exh S.a3
     have HRW:Hid (∀ v:World,Bl w v→∀ (k:Nat) (d:LatD),G.lats[k]?=some d→∃ b o,a1=some ⟨b,o,none⟩∧v.cell? ⟨b,o+k*2,none⟩=some (.int .i64 d.next)∧v.cell? ⟨b,o+k*2+1,none⟩=some (.bool d.init)):=fun v hv k d hd=>by
      obtain ⟨b,o,h1,_,h3⟩:=(HG.out v hv).at_.l.el hd
      exact ⟨b,o,Ea1.out.trans h1,h3 0 _ rfl,h3 1 _ rfl⟩
     have HRO:Hid (∀ v:World,Bl w v→∀ (k:Nat) (z:Int),G.outs[k]?=some z→∃ b o,a3=some ⟨b,o,none⟩∧v.cell? ⟨b,o+k,none⟩=some (.int .i64 z)):=fun v hv k z hz=>by
      obtain ⟨b,o,h1,_,h3⟩:=(HG.out v hv).at_.o.intR hz
      exact ⟨b,o,Ea3.out.trans h1,h3⟩
     have HCG:Hid (∀ v:World,Bl w v→v.cell? ⟨gb,1,none⟩=some (.slice a1 nl S.c1)∧v.cell? ⟨gb,3,none⟩=some (.slice a3 no S.c3)):=fun v hv=>by
      have hx:=(HG.out v hv).bx
      have q1:=hx.c1
      have q3:=hx.c3
      rw [←Enl.out,←Ea1.out] at q1
      rw [←Eno.out,←Ea3.out] at q3
      exact ⟨q1,q3⟩
     have HLI0:=hidden HLI.out
     have HNT:Hid (N2.tabs.length≤300000):=by show _≤_;omega
     have HNK:=hidden HN.out
     have q1:=(HCG.out wr (HUP.out _ HB.out)).1
     have hsl:lb≠sb:=by have:=HLY.out.ne.1;rw [HLB.out.1,HLB.out.2.1] at this;exact this
     have HLBS:Hid (lb≠sb):=hsl
     clear HLY HLI HN hNN k4 k7 kg kb hy hNt HCB HCV HFG
     go_wp2_with fail
     clear q1
     go_loopw [9,84] (fun _ i' w'=>∃ (k:Nat) (nv:Value),k≤nl∧i' = .int .i64 (k:Int)∧Hid (LyAt C w' D (NN k 0) sg2 wd iv tv2 nv (.slice none 0 0))∧Hid (Below C0 w0 w')) (fun _ i' _=>nl - (intOf i').toNat)
     case atStart=>exact ⟨0,_,Nat.zero_le _,rfl,HL0.out,HB.out⟩
     case round =>
      clear HL0 HB
      obtain ⟨k,nv,hk,rfl,HLY,HB⟩:=hrel
      by_cases hlt:k<nl
      ·have hltI:(k:Int)<(nl:Int):=by omega
       obtain ⟨d,hd⟩:=getElem_lt (show k<G.lats.length by rw [←Enl.out];exact hlt)
       obtain ⟨b,o,ea,cx,cy⟩:=HRW.out wr (HUP.out _ HB.out) k d hd
       have e3:IntKind.i64.wrap ((k:Int)+1)=(k:Int)+1:=wrapI _ (by omega) (by omega)
       obtain ⟨hx0,hx1⟩:=HHF.out.lats d (List.mem_of_getElem? hd)
       obtain ⟨p,Ep⟩:=exh d.next.toNat
       have hp:d.next=(p:Int):=by have:=Ep.out;omega
       rw [hp] at cx
       have hpM:p<M:=by have:=HDM.out;omega
       have hpI:(p:Int)<(M:Int):=by omega
       obtain ⟨z,Ez⟩:=exh (sg2 p)
       have HNX:Hid ({ NN k 0 with next:=(NN k 0).next++[z] } = NN (k+1) 0):=by
        have:=HN1.out k d hd
        rw [←Ep.out,←Ez.out] at this
        exact this
       have hkl:=(HLK.out k 0).1 hk
       obtain ⟨xb,Exb⟩:=exh wr.heap.size
       obtain ⟨w2,Ew2⟩:=exh (wr.alloc (.cells #[.int .i64 (p:Int),.bool d.init] 45))
       have HB2:Hid (Bl wr w2):=by rw [Ew2.out];exact (Below.refl _ _).alloc (Nat.le_refl _) _
       have HK2:Hid (Blk w2 xb 45 #[.int .i64 (p:Int),.bool d.init]):=by rw [Ew2.out,Exb.out];exact Blk.new _ _ _
       have HLY2:=hidden (HLY.out.to HB2.out)
       have HBW:Hid (Below C0 w0 w2):=HTR.out _ _ HB.out HB2.out
       have hxv:some xb≠nv.ownBlock:=fun e=>by have:=own_lt HLY.out.on xb e.symm;have:=Exb.out;omega
       have hxl:xb≠lb:=fun e=>by have:=HLY.out.lt.1;have:=HLY.out.le;have:=Exb.out;have:=HLB.out.1;omega
       have HSX:Hid (∀ x:World,Bl w2 x→(x.cell? ⟨xb,0,none⟩=some (.int .i64 (p:Int))∧x.cell? ⟨lb,5,none⟩=some (.slice (some ⟨sb,0,none⟩) M M)∧x.cell? ⟨sb,p,none⟩=some (.int .i64 z))):=fun x hx=>by
        obtain ⟨⟨y5,-⟩,ys,-⟩:=HCS.out _ _ _ _ _ _ (HLY2.out.to hx)
        have y0:=(ys p hpM).1
        rw [←Ez.out] at y0
        exact ⟨(HK2.out.below hx).cell (i:=0) rfl,y5,y0⟩
       have HZ:Hid (∀ x:World,Bl w2 x→x.cell? ⟨lb,3,none⟩=some nv):=fun x hx=>by
        have:=(HLY2.out.to hx).bk.cell (i:=3) rfl
        rw [HLB.out.1] at this
        exact this
       have HOW:Hid (∀ x:World,Bl w2 x→x.ownsRow C 3 1 nv k ((NN k 0).next.map zV)):=fun x hx=>by
        have:=(HLY2.out.to hx).on
        rw [hkl] at this
        exact this
       have HCW:Hid (∀ x:World,Bl w2 x→C≤x.heap.size):=fun x hx=>(HLY2.out.to hx).le
       have HFI:Hid (∀ (xc w5:World) (g5 c5:Nat),Bl w2 xc→w5.ownsRow C 3 1 (.slice (some ⟨g5,0,none⟩) (k+1) c5) (k+1) ((NN k 0).next.map zV++[.int .i64 z])→xc.grownBy w5 nv.ownBlock→(nv.ownBlock=some g5∨g5=xc.heap.size)→(w5.cell? ⟨xb,0,none⟩=some (.int .i64 (p:Int))∧w5.cell? ⟨lb,5,none⟩=some (.slice (some ⟨sb,0,none⟩) M M)∧w5.cell? ⟨sb,p,none⟩=some (.int .i64 z))∧w5.cell? ⟨lb,3,none⟩=some nv∧w5.frozen? ⟨lb,3,none⟩=false∧((w5.setCell ⟨lb,3,none⟩ (.slice (some ⟨g5,0,none⟩) (k+1) c5)).cell? ⟨xb,0,none⟩=some (.int .i64 (p:Int))∧(w5.setCell ⟨lb,3,none⟩ (.slice (some ⟨g5,0,none⟩) (k+1) c5)).cell? ⟨lb,5,none⟩=some (.slice (some ⟨sb,0,none⟩) M M)∧(w5.setCell ⟨lb,3,none⟩ (.slice (some ⟨g5,0,none⟩) (k+1) c5)).cell? ⟨sb,p,none⟩=some (.int .i64 z))∧Hid (LyAt C (w5.setCell ⟨lb,3,none⟩ (.slice (some ⟨g5,0,none⟩) (k+1) c5)) D (NN (k+1) 0) sg2 wd iv tv2 (.slice (some ⟨g5,0,none⟩) (k+1) c5) (.slice none 0 0))∧Hid (Below C0 w0 (w5.setCell ⟨lb,3,none⟩ (.slice (some ⟨g5,0,none⟩) (k+1) c5)))):=fun xc w5 g5 c5 hx hown hgrow hplace=>by
        obtain ⟨q1,q2,q3⟩:=HLY2.out.nxtB (C0:=C0) hx hgrow (.slice (some ⟨g5,0,none⟩) (k+1) c5) (by rw [HLB.out.1];exact hlb)
        have hxx:xb<xc.heap.size:=Nat.lt_of_lt_of_le HK2.out.lt hx.size
        obtain ⟨q4,q5⟩:=q3 xb hxx hxv (by rw [HLB.out.1];exact hxl)
        have hkx:=HK2.out.below hx
        have q6:Blk w5 xb 45 #[.int .i64 (p:Int),.bool d.init]:=q4.trans hkx
        have hnew:=HLY2.out.nxt hx (x:=z) hgrow (g:=g5) (cap:=c5) (by rw [hkl];exact hown) hplace
        rw [HNX.out,hkl,HLB.out.1] at hnew
        have hL5:=blk_kept ((HLY2.out.to hx).bk) hgrow (fun e=>by have:=own_newB HLY2.out.on D.lb e.symm;have:=HLY2.out.lt.1;omega)
        have hS5:=blk_kept ((HLY2.out.to hx).sg) hgrow (fun e=>by have:=own_newB HLY2.out.on D.sb e.symm;have:=HLY2.out.lt.2.1;omega)
        rw [HLB.out.1,HLB.out.2.1,HLB.out.2.2.1,HLB.out.2.2.2] at hL5
        rw [HLB.out.2.1,HLB.out.2.2.2] at hS5
        rw [HLB.out.1] at q1 q2 q5
        have q7:Blk (w5.setCell ⟨lb,3,none⟩ (.slice (some ⟨g5,0,none⟩) (k+1) c5)) xb 45 #[.int .i64 (p:Int),.bool d.init]:=q5.trans hkx
        obtain ⟨⟨y5,-⟩,ys,-⟩:=HCS.out _ _ _ _ _ _ hnew
        have y0:=(ys p hpM).1
        rw [←Ez.out] at y0
        have z0:=hS5.cell (tab_get hpM)
        rw [←Ez.out] at z0
        exact ⟨⟨q6.cell (i:=0) rfl,hL5.cell (i:=5) rfl,z0⟩,q2.1,q2.2,⟨q7.cell (i:=0) rfl,y5,y0⟩,hnew,HBW.out.trans q1⟩
       have hkb:k≤1000000000000:=by omega
       obtain ⟨di,Edi⟩:=exh d.init
       rw [show d.init=di from Edi.out.symm] at cy Ew2
       subst ea
       obtain ⟨xc0,xc5,xcs⟩:=HSX.out w2 (Below.refl _ _)
       clear hd HLY HB HB2 HLY2 HK2 hxv hxl HNX hkl hp hx0 hx1 hsl
       go_upto_region 14 with fail
       rw [←Exb.out,←Ew2.out]
       clear cx cy
       have HQ2:Hid (Bl w2 w2.drew):=Below.drew (Below.refl _ _)
       refine wp_region_noPanic ?_
       refine wp_region_held_drew (S:=fun wz=>wz.cell? ⟨xb,0,none⟩=some (.int .i64 (p:Int))∧wz.cell? ⟨lb,5,none⟩=some (.slice (some ⟨sb,0,none⟩) M M)∧wz.cell? ⟨sb,p,none⟩=some (.int .i64 z)) (by kernel_rfl) (by exact ⟨xc0,xc5,xcs⟩) (fun hHeld=>?_)
       refine tk 0 ?_
       refine tk 1 ?_
       refine tk 2 ?_
       refine tk 3 ?_
       refine tk 4 ?_
       refine tk 6 ?_
       refine tk 7 ?_
       refine tk 8 ?_
       refine tk 9 ?_
       refine tk 10 ?_
       refine tk 11 ?_
       refine tk 12 ?_
       refine tk 13 ?_
       have zz:w2.drew.cell? ⟨lb,3,none⟩=some nv:=HZ.out _ HQ2.out
       refine wpAnyH_ready (rs:=[5,14]) (by kernel_rfl) (by simp) ?_
       refine AllReadyH.cons (o:=_) rfl (fun K hK=>?_) (AllReadyH.cons (o:=_) rfl (fun K hK=>?_) AllReadyH.nil)
       (try simp only [gA,gB,gC]);go_simp
       refine wo hK (HSX.out _ HQ2.out) fun _=>?_
       clear hK K zz
       refine rd 14 fun K hK=>?_
       (try simp only [gA,gB,gC]);go_simp
       obtain ⟨yb,Eyb⟩:=exh w2.heap.size
       rw [←Eyb.out]
       have HKc:Hid ((w2.alloc (.cells #[.int .i64 z] 3)).drew.cell? ⟨yb,0,none⟩=some (.int .i64 z)):=by rw [Eyb.out];exact (Blk.new w2 _ _).drew.cell (i:=0) rfl
       have HQc:Hid (Bl w2 (w2.alloc (.cells #[.int .i64 z] 3)).drew):=Below.drew ((Below.refl _ _).alloc (Nat.le_refl _) _)
       generalize (w2.alloc (.cells #[.int .i64 z] 3)).drew=xc at *
       refine wo hK (HSX.out _ HQc.out) fun _=>?_
       clear hK K Eyb
       rotate_left
       clear zz
       (try simp only [gA,gB,gC]);go_simp
       obtain ⟨yb,Eyb⟩:=exh w2.heap.size
       rw [←Eyb.out]
       have HKc:Hid ((w2.alloc (.cells #[.int .i64 z] 3)).drew.cell? ⟨yb,0,none⟩=some (.int .i64 z)):=by rw [Eyb.out];exact (Blk.new w2 _ _).drew.cell (i:=0) rfl
       have HQc:Hid (Bl w2 (w2.alloc (.cells #[.int .i64 z] 3)).drew):=Below.drew ((Below.refl _ _).alloc (Nat.le_refl _) _)
       generalize (w2.alloc (.cells #[.int .i64 z] 3)).drew=xc at *
       refine wo hK (HSX.out _ HQc.out) fun _=>?_
       clear hK K Eyb
       have zz:xc.cell? ⟨lb,3,none⟩=some nv:=HZ.out _ HQc.out
       refine rd 5 fun K hK=>?_
       (try simp only [gA,gB,gC]);go_simp
       refine wo hK (HSX.out _ HQc.out) fun _=>?_
       clear hK K zz
       all_goals
        refine rd 15 fun K hK=>?_
        refine step_int _ rfl (.tmp 93) (.tmp 102) rfl C nv k _ rfl (HOW.out _ HQc.out) ⟨yb,0,none⟩ z rfl HKc.out hkb (HCW.out _ HQc.out) ?_
        intro g5 c5 w5 hown hgrow hplace
        obtain ⟨y0,y1,y2,y3,HL6,HB6⟩:=HFI.out _ w5 g5 c5 HQc.out hown hgrow hplace
        clear hown hgrow hplace HFI HOW HZ HSX HCW
        refine wo hK y0 fun _=>?_
        clear hK K
        refine tk 16 ?_
        refine tk 17 ?_
        refine tk 18 ?_
        refine rd 19 fun K hK=>?_
        (try simp only [gA,gB,gC]);go_simp
        refine wo hK y3 fun _=>?_
        clear hK K
        refine wpAnyH_done (by kernel_rfl) ?_ _
        refine NoPanic.normal ?_
        clear y0 y1 y2 y3 xc0 xc5 xcs
        go_wp2
        go_roundw
        case measure=>simp [intOf];omega
        case rel=>exact ⟨k+1,_,by omega,by simp,HL6.out,HB6.out⟩
      ·have hge3:¬ (k:Int)<(nl:Int):=by omega
       obtain rfl:k=nl:=by omega
       have q3:=(HCG.out wr (HUP.out _ HB.out)).2
       clear hsl HRW HN1
       go_wp2_with fail
       clear q3
       go_loopw [11,113] (fun _ i' w'=>∃ (j:Nat) (ov:Value),j≤no∧i' = .int .i64 (j:Int)∧Hid (LyAt C w' D (NN k j) sg2 wd iv tv2 nv ov)∧Hid (Below C0 w0 w')) (fun _ i' _=>no - (intOf i').toNat)
       case atStart=>exact ⟨0,_,Nat.zero_le _,rfl,HLY.out,HB.out⟩
       case round =>
        clear HLY HB
        obtain ⟨j,ov,hj,rfl,HLY,HB⟩:=hrel
        by_cases hlj:j<no
        ·have hljI:(j:Int)<(no:Int):=by omega
         obtain ⟨xz,hd⟩:=getElem_lt (show j<G.outs.length by rw [←Eno.out];exact hlj)
         obtain ⟨b,o,ea,cx⟩:=HRO.out wr (HUP.out _ HB.out) j xz hd
         have e3:IntKind.i64.wrap ((j:Int)+1)=(j:Int)+1:=wrapI _ (by omega) (by omega)
         obtain ⟨hx0,hx1⟩:=HHF.out.outs xz (List.mem_of_getElem? hd)
         obtain ⟨p,Ep⟩:=exh xz.toNat
         have hp:xz=(p:Int):=by have:=Ep.out;omega
         rw [hp] at cx
         have hpM:p<M:=by have:=HDM.out;omega
         have hpI:(p:Int)<(M:Int):=by omega
         obtain ⟨z,Ez⟩:=exh (sg2 p)
         have HNX:Hid ({ NN k j with outs:=(NN k j).outs++[z] } = NN k (j+1)):=by
          have:=HN2.out k j xz hd
          rw [←Ep.out,←Ez.out] at this
          exact this
         have hkl:=(HLK.out k j).2 hj
         have HSX:Hid (∀ x:World,Bl wr x→(x.cell? ⟨lb,5,none⟩=some (.slice (some ⟨sb,0,none⟩) M M)∧x.cell? ⟨sb,p,none⟩=some (.int .i64 z))):=fun x hx=>by
          obtain ⟨⟨y5,-⟩,ys,-⟩:=HCS.out _ _ _ _ _ _ (HLY.out.to hx)
          have y0:=(ys p hpM).1
          rw [←Ez.out] at y0
          exact ⟨y5,y0⟩
         have HZ:Hid (∀ x:World,Bl wr x→x.cell? ⟨lb,4,none⟩=some ov):=fun x hx=>by
          have:=(HLY.out.to hx).bk.cell (i:=4) rfl
          rw [HLB.out.1] at this
          exact this
         have HOW:Hid (∀ x:World,Bl wr x→x.ownsRow C 3 1 ov j ((NN k j).outs.map zV)):=fun x hx=>by
          have:=(HLY.out.to hx).oo
          rw [hkl] at this
          exact this
         have HCW:Hid (∀ x:World,Bl wr x→C≤x.heap.size):=fun x hx=>(HLY.out.to hx).le
         have HFI:Hid (∀ (xc w5:World) (g5 c5:Nat),Bl wr xc→w5.ownsRow C 3 1 (.slice (some ⟨g5,0,none⟩) (j+1) c5) (j+1) ((NN k j).outs.map zV++[.int .i64 z])→xc.grownBy w5 ov.ownBlock→(ov.ownBlock=some g5∨g5=xc.heap.size)→(w5.cell? ⟨lb,5,none⟩=some (.slice (some ⟨sb,0,none⟩) M M)∧w5.cell? ⟨sb,p,none⟩=some (.int .i64 z))∧w5.cell? ⟨lb,4,none⟩=some ov∧w5.frozen? ⟨lb,4,none⟩=false∧((w5.setCell ⟨lb,4,none⟩ (.slice (some ⟨g5,0,none⟩) (j+1) c5)).cell? ⟨lb,5,none⟩=some (.slice (some ⟨sb,0,none⟩) M M)∧(w5.setCell ⟨lb,4,none⟩ (.slice (some ⟨g5,0,none⟩) (j+1) c5)).cell? ⟨sb,p,none⟩=some (.int .i64 z))∧Hid (LyAt C (w5.setCell ⟨lb,4,none⟩ (.slice (some ⟨g5,0,none⟩) (j+1) c5)) D (NN k (j+1)) sg2 wd iv tv2 nv (.slice (some ⟨g5,0,none⟩) (j+1) c5))∧Hid (Below C0 w0 (w5.setCell ⟨lb,4,none⟩ (.slice (some ⟨g5,0,none⟩) (j+1) c5)))):=fun xc w5 g5 c5 hx hown hgrow hplace=>by
          obtain ⟨q1,q2,q3⟩:=HLY.out.ouxB (C0:=C0) hx hgrow (.slice (some ⟨g5,0,none⟩) (j+1) c5) (by rw [HLB.out.1];exact hlb)
          have hnew:=HLY.out.oux hx (x:=z) hgrow (g:=g5) (cap:=c5) (by rw [hkl];exact hown) hplace
          rw [HNX.out,hkl,HLB.out.1] at hnew
          have hL5:=blk_kept ((HLY.out.to hx).bk) hgrow (fun e=>by have:=own_newB HLY.out.oo D.lb e.symm;have:=HLY.out.lt.1;omega)
          have hS5:=blk_kept ((HLY.out.to hx).sg) hgrow (fun e=>by have:=own_newB HLY.out.oo D.sb e.symm;have:=HLY.out.lt.2.1;omega)
          rw [HLB.out.1,HLB.out.2.1,HLB.out.2.2.1,HLB.out.2.2.2] at hL5
          rw [HLB.out.2.1,HLB.out.2.2.2] at hS5
          rw [HLB.out.1] at q1 q2
          obtain ⟨⟨y5,-⟩,ys,-⟩:=HCS.out _ _ _ _ _ _ hnew
          have y0:=(ys p hpM).1
          rw [←Ez.out] at y0
          have z0:=hS5.cell (tab_get hpM)
          rw [←Ez.out] at z0
          exact ⟨⟨hL5.cell (i:=5) rfl,z0⟩,q2.1,q2.2,⟨y5,y0⟩,hnew,HB.out.trans q1⟩
         have hkb:j≤1000000000000:=by omega
         subst ea
         obtain ⟨xc5,xcs⟩:=HSX.out wr (Below.refl _ _)
         clear hd HLY HB HNX hkl hp hx0 hx1
         go_upto_region 19 with fail
         clear cx
         have HQ2:Hid (Bl wr wr.drew):=Below.drew (Below.refl _ _)
         refine wp_region_noPanic ?_
         refine wp_region_held_drew (S:=fun wz=>wz.cell? ⟨lb,5,none⟩=some (.slice (some ⟨sb,0,none⟩) M M)∧wz.cell? ⟨sb,p,none⟩=some (.int .i64 z)) (by kernel_rfl) (by exact ⟨xc5,xcs⟩) (fun hHeld=>?_)
         refine tk 0 ?_
         refine tk 1 ?_
         refine tk 2 ?_
         refine tk 3 ?_
         refine tk 4 ?_
         refine tk 6 ?_
         refine tk 7 ?_
         refine tk 8 ?_
         refine tk 9 ?_
         refine tk 10 ?_
         refine tk 11 ?_
         refine tk 12 ?_
         have zz:wr.drew.cell? ⟨lb,4,none⟩=some ov:=HZ.out _ HQ2.out
         refine wpAnyH_ready (rs:=[5,13]) (by kernel_rfl) (by simp) ?_
         refine AllReadyH.cons (o:=_) rfl (fun K hK=>?_) (AllReadyH.cons (o:=_) rfl (fun K hK=>?_) AllReadyH.nil)
         (try simp only [gA,gB,gC]);go_simp
         refine wo hK (HSX.out _ HQ2.out) fun _=>?_
         clear hK K zz
         refine rd 13 fun K hK=>?_
         (try simp only [gA,gB,gC]);go_simp
         obtain ⟨yb,Eyb⟩:=exh wr.heap.size
         rw [←Eyb.out]
         have HKc:Hid ((wr.alloc (.cells #[.int .i64 z] 3)).drew.cell? ⟨yb,0,none⟩=some (.int .i64 z)):=by rw [Eyb.out];exact (Blk.new wr _ _).drew.cell (i:=0) rfl
         have HQc:Hid (Bl wr (wr.alloc (.cells #[.int .i64 z] 3)).drew):=Below.drew ((Below.refl _ _).alloc (Nat.le_refl _) _)
         generalize (wr.alloc (.cells #[.int .i64 z] 3)).drew=xc at *
         refine wo hK (HSX.out _ HQc.out) fun _=>?_
         clear hK K Eyb
         rotate_left
         clear zz
         (try simp only [gA,gB,gC]);go_simp
         obtain ⟨yb,Eyb⟩:=exh wr.heap.size
         rw [←Eyb.out]
         have HKc:Hid ((wr.alloc (.cells #[.int .i64 z] 3)).drew.cell? ⟨yb,0,none⟩=some (.int .i64 z)):=by rw [Eyb.out];exact (Blk.new wr _ _).drew.cell (i:=0) rfl
         have HQc:Hid (Bl wr (wr.alloc (.cells #[.int .i64 z] 3)).drew):=Below.drew ((Below.refl _ _).alloc (Nat.le_refl _) _)
         generalize (wr.alloc (.cells #[.int .i64 z] 3)).drew=xc at *
         refine wo hK (HSX.out _ HQc.out) fun _=>?_
         clear hK K Eyb
         have zz:xc.cell? ⟨lb,4,none⟩=some ov:=HZ.out _ HQc.out
         refine rd 5 fun K hK=>?_
         (try simp only [gA,gB,gC]);go_simp
         refine wo hK (HSX.out _ HQc.out) fun _=>?_
         clear hK K zz
         all_goals
          refine rd 14 fun K hK=>?_
          refine step_int _ rfl (.tmp 122) (.tmp 130) rfl C ov j _ rfl (HOW.out _ HQc.out) ⟨yb,0,none⟩ z rfl HKc.out hkb (HCW.out _ HQc.out) ?_
          intro g5 c5 w5 hown hgrow hplace
          obtain ⟨y0,y1,y2,y3,HL6,HB6⟩:=HFI.out _ w5 g5 c5 HQc.out hown hgrow hplace
          clear hown hgrow hplace HFI HOW HZ HSX HCW
          refine wo hK y0 fun _=>?_
          clear hK K
          refine tk 15 ?_
          refine tk 16 ?_
          refine tk 17 ?_
          refine rd 18 fun K hK=>?_
          (try simp only [gA,gB,gC]);go_simp
          refine wo hK y3 fun _=>?_
          clear hK K
          refine wpAnyH_done (by kernel_rfl) ?_ _
          refine NoPanic.normal ?_
          clear y0 y1 y2 y3 xc5 xcs
          go_wp2
          go_roundw
          case measure=>simp [intOf];omega
          case rel=>exact ⟨j+1,_,by omega,by simp,HL6.out,HB6.out⟩
        ·have hge4:¬ (j:Int)<(no:Int):=by omega
         obtain rfl:j=no:=by omega
         have HNJ:Hid ((⟨(NN k j).ni,(NN k j).init,(NN k j).tabs,(NN k j).next,(NN k j).outs⟩:L.NtD)=⟨G.ins,G.lats.map LatD.init,N2.tabs,G.lats.map fun l=>sg2 l.next.toNat,G.outs.map fun o=>sg2 o.toNat⟩):=by
          rw [ENN.out]
          show (⟨(ni:Int),inits,N2.tabs,(G.lats.take k).map _,(G.outs.take j).map _⟩:L.NtD)=_
          rw [List.take_of_length_le (by have:=Enl.out;omega),List.take_of_length_le (by have:=Eno.out;omega),Einits.out,HINS.out]
         have hlk:=HLK.out k j
         have hti:(NN k j).init=inits∧(NN k j).tabs=N2.tabs∧(NN k j).ni=(ni:Int):=by rw [ENN.out];exact ⟨rfl,rfl,rfl⟩
         obtain ⟨T,E1,E2,E3,E4,hat,hnil⟩:=HLY.out.net (by rw [hti.1,HIL.out,←Enl.out];unfold L.huge;omega) (by rw [hti.2.1];have:=HNT.out;unfold L.big;omega) (by rw [hlk.1 (Nat.le_refl _)];unfold L.big;omega) (by rw [hlk.2 (Nat.le_refl _)];unfold L.big;omega) (fun d hd=>by
          rw [hti.2.1] at hd
          obtain ⟨i,hi⟩:=List.getElem?_of_mem hd
          have:=HLI0.out.ok i d hi
          unfold L.TbD.ok at this
          rw [Bool.and_eq_true,Bool.and_eq_true] at this
          have:=of_decide_eq_true this.1.1
          unfold L.big;omega)
         obtain ⟨NF,ENF⟩:=exh (⟨(NN k j).ni,(NN k j).init,(NN k j).tabs,(NN k j).next,(NN k j).outs⟩:L.NtD)
         rw [←ENF.out] at hat HNJ
         have HAT:Hid (∀ (w' v:World) (r:Nat),But rb wr w'→r<w.heap.size→But r w' v→L.NtAt v.heap.size v T NF):=fun w' v r hw' hr hv=>hat v ((HLY.out.but hw' (by have:=HLY.out.lt.1;rw [HLB.out.1] at this;have:=Erb.out;omega) ⟨by rw [HLB.out.1];have:=Erb.out;omega,by rw [HLB.out.2.1];have:=Erb.out;omega,by rw [HLB.out.2.2.1];have:=Erb.out;omega⟩).but hv (by have:=HLY.out.lt.1;rw [HLB.out.1] at this;omega) ⟨by rw [HLB.out.1];omega,by rw [HLB.out.2.1];omega,by rw [HLB.out.2.2.1];omega⟩)
         have HNIL:Hid (T.a1=none→T.c1=0∧NF.init=[]):=by rw [ENF.out];exact hnil
         have HLO:Hid (LaidO P F n U G NF):=⟨sg2,N2,gs,by rw [←Ewd.out];exact HLI0.out,fun u h1 h2 h3=>HCI.out.all u h1 h1 h2 h3,HNT.out,HNK.out.1.trans HINS.out.symm,HNK.out.2.1.trans Einits.out,HNJ.out⟩
         have hKR:Blk wr rb 34 #[.int .i64 0,.slice none 0 0,.slice none 0 0,.slice none 0 0,.slice none 0 0]:=(HB.out.block rb (by have:=Erb.out;omega)).trans HKR.out
         have hbk:=HLY.out.bk
         rw [HLB.out.1,E1,E2,E3,E4] at hbk
         have b0:=hbk.cell (i:=0) rfl
         have b1:=hbk.cell (i:=1) rfl
         have b2:=hbk.cell (i:=2) rfl
         have b3:=hbk.cell (i:=3) rfl
         have b4:=hbk.cell (i:=4) rfl
         have g0:(NN k j).ni=NF.ins:=by rw [ENF.out]
         have g1:(NN k j).init.length=NF.init.length:=by rw [ENF.out]
         have g2:(NN k j).tabs.length=NF.tabs.length:=by rw [ENF.out]
         have g3:(NN k j).next.length=NF.next.length:=by rw [ENF.out]
         have g4:(NN k j).outs.length=NF.outs.length:=by rw [ENF.out]
         rw [g0] at b0
         rw [g1] at b1
         rw [g2] at b2
         rw [g3] at b3
         rw [g4] at b4
         have r0:=hKR.cell (i:=0) rfl
         have r1:=hKR.cell (i:=1) rfl
         have r2:=hKR.cell (i:=2) rfl
         have r3:=hKR.cell (i:=3) rfl
         have r4:=hKR.cell (i:=4) rfl
         have f0:=hKR.frozen 0
         have f1:=hKR.frozen 1
         have f2:=hKR.frozen 2
         have f3:=hKR.frozen 3
         have f4:=hKR.frozen 4
         have HEF:Hid (firstN G=F):=EF.out.symm
         obtain ⟨n0,En0⟩:=exh NF.ins
         obtain ⟨n1,En1⟩:=exh NF.init.length
         obtain ⟨n2,En2⟩:=exh NF.tabs.length
         obtain ⟨n3,En3⟩:=exh NF.next.length
         obtain ⟨n4,En4⟩:=exh NF.outs.length
         rw [←En0.out] at b0
         rw [←En1.out] at b1
         rw [←En2.out] at b2
         rw [←En3.out] at b3
         rw [←En4.out] at b4
         have HSZ:Hid (C0≤wr.heap.size):=by rw [EC0.out];exact HB.out.size
         clear hbk hKR hat hnil E1 E2 E3 E4 g0 g1 g2 g3 g4 hlk hti HLY
         go_wp2
         obtain ⟨z0,z1,z2,z3,z4⟩:=set5 r0 r1 r2 r3 r4 (.int .i64 n0) (.slice T.a1 n1 T.c1) (.slice T.a2 n2 T.c2) (.slice T.a3 n3 T.c3) (.slice T.a4 n4 T.c4)
         have HG9:=hidden (set5_but wr rb (.int .i64 n0) (.slice T.a1 n1 T.c1) (.slice T.a2 n2 T.c2) (.slice T.a3 n3 T.c3) (.slice T.a4 n4 T.c4))
         generalize World.setCell _ (⟨rb,4,none⟩:Addr) _=w9 at HG9 z0 z1 z2 z3 z4 ⊢
         clear r0 r1 r2 r3 r4 f0 f1 f2 f3 f4 b0 b1 b2 b3 b4
         refine bodyPost_ret (v:=.agg #[.int .i64 n0,.slice T.a1 n1 T.c1,.slice T.a2 n2 T.c2,.slice T.a3 n3 T.c3,.slice T.a4 n4 T.c4]) (by simp [results,Try.results20,go_sem, *]) rfl ?_
         exact ⟨T,NF,by unfold L.NtS.cells;rw [En0.out,En1.out,En2.out,En3.out,En4.out],(fun r v hr hv=>HAT.out w9 v r HG9.out hr hv),HNIL.out,HLO.out,(HUP.out _ HB.out).trans (HG9.out.below (by have:=Erb.out;omega) (HUP.out _ HB.out).size)⟩
end Go.Proofs.Ytlaljeobdddegaa
