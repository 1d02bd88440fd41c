import Derived.Test.YtlaljeobdddegaaJ51
namespace Go.Proofs.Ytlaljeobdddegaa
open Go.RowKit Mp
theorem laid_end {J:GrD} {ni n:Nat} (hJ:FineG J ni n) {P:(Nat→Bool)→Prop} {U:Nat→Nat} {sg:Nat→Int} {NL:NetL} {gs:List Nat} (hL:LayI P (firstN J) n U (wdA (endL J)) NL sg (YX (firstN J) gs 0)) (hall:∀ u,firstN J≤u→u<n→0<U u→u ∈ gs) (hU:∀ u,firstN J≤u→u<n→(∃ x,x ∈ endL J∧(x / 2).toNat=u)→0<U u) {x:Int} (hx:x ∈ endL J):(0≤x∧x<2*(n:Int))∧sg x.toNat≠-1:=by
 have hb:0≤x∧x<2*(n:Int):=by
  rcases List.mem_append.1 hx with h | h
  ·exact hJ.outs x h
  ·obtain ⟨z,hz,rfl⟩:=List.mem_map.1 h
   exact hJ.lats z hz
 refine ⟨hb,?_⟩
 have hw:wdA (endL J) x.toNat=true:=by
  unfold wdA
  rw [Int.toNat_of_nonneg hb.1]
  exact decide_eq_true hx
 have hY:YX (firstN J) gs 0 (x.toNat / 2):=by
  by_cases e:x.toNat / 2<firstN J
  ·exact Or.inl e
  ·obtain ⟨j,hj⟩:=List.getElem?_of_mem (hall (x.toNat / 2) (by omega) (by omega) (hU _ (by omega) (by omega) ⟨x,hx,by omega⟩))
   exact Or.inr ⟨j,Nat.zero_le _,hj⟩
 obtain ⟨_,h2,h3⟩:=hL.had _ hY
 rcases (by omega:x.toNat=2*(x.toNat / 2)∨x.toNat=2*(x.toNat / 2)+1) with e | e
 ·rw [e];exact h2 (by rw [←e];exact hw)
 ·rw [e];exact h3 (by rw [←e];exact hw)
theorem map_facts {G:GrD} {ni n:Nat} (hF:FineG G ni n) {N:L.NtD} (h:MapO G N):L.NtOk N=true∧N.ins=G.ins∧N.outs.length=G.outs.length∧N.init=initN G∧N.tabs.length≤300000∧(∀ tr,L.runT N tr N.init=runN G tr (initN G))∧∀ cuts label,CutsD (grG hF) n cuts label→(∀ v,v<firstN G→label v=0)→L.depN N≤(lstV (firstN G) label (endL G):Int):=by
 obtain ⟨nH,hH⟩:=hash_fine hF
 obtain ⟨niJ,nJ,hJ,U,⟨sg,NL,gs,hL,hall,htl,hni,hini,rfl⟩,hU⟩:=h
 obtain rfl:niJ=ni:=by
  have a:=hJ.ins
  have b:=hF.ins
  have c:(cleanOf (hashG G)).ins=G.ins:=rfl
  omega
 have hlJ:(cleanOf (hashG G)).lats.length=G.lats.length:=by
  show ((G.lats.map _).map _).length=_
  rw [List.length_map,List.length_map]
 have hoJ:(cleanOf (hashG G)).outs.length=G.outs.length:=by
  show ((G.outs.map _).map _).length=_
  rw [List.length_map,List.length_map]
 have hiJ:(cleanOf (hashG G)).lats.map LatD.init=initN G:=by
  show ((G.lats.map _).map _).map LatD.init=G.lats.map LatD.init
  rw [List.map_map,List.map_map];rfl
 have hE:=fun {x:Int} (hx:x ∈ endL (cleanOf (hashG G)))=>laid_end hJ hL hall (fun u a b c=>(hU u a b).2 c) hx
 have hsig:=fun {x:Int} (hx:x ∈ endL (cleanOf (hashG G)))=>hL.sig x.toNat (by have:=(hE hx).1;omega) (hE hx).2
 have hLn:=hL.ni
 rw [hni,hini] at hLn
 have hin:(cleanOf (hashG G)).ins=(niJ:Int):=hJ.ins
 have hN6:=hJ.le
 have hfi:=hJ.first
 have hfa:=hJ.all
 refine ⟨?_,rfl,?_,hiJ,htl,fun tr=>?_,fun cuts label hC hz=>?_⟩
 ·unfold L.NtOk
  rw [Bool.and_eq_true,Bool.and_eq_true,Bool.and_eq_true]
  have hsg:∀ x,x ∈ endL (cleanOf (hashG G))→L.sigOk (L.NtD.sigs ⟨(cleanOf (hashG G)).ins,(cleanOf (hashG G)).lats.map LatD.init,NL.tabs,(cleanOf (hashG G)).lats.map fun l=>sg l.next.toNat,(cleanOf (hashG G)).outs.map fun o=>sg o.toNat⟩) (sg x.toNat)=true:=fun x hx=>by
   have:=hsig hx
   refine decide_eq_true ⟨this.ge,?_⟩
   show sg x.toNat<2+(cleanOf (hashG G)).ins+(((cleanOf (hashG G)).lats.map LatD.init).length:Int)+(NL.tabs.length:Int)
   rw [hLn];exact this.lt
  refine ⟨⟨⟨decide_eq_true ⟨?_,?_,?_,?_⟩,List.all_eq_true.2 fun i hi=>?_⟩,List.all_eq_true.2 fun s hs=>?_⟩,List.all_eq_true.2 fun s hs=>?_⟩
  ·show 0≤(cleanOf (hashG G)).ins;rw [hin];omega
  ·show (cleanOf (hashG G)).ins≤60000;rw [hin];omega
  ·show ((cleanOf (hashG G)).outs.map _).length≤60000;rw [List.length_map];exact hJ.lo
  ·show ((cleanOf (hashG G)).lats.map _).length=((cleanOf (hashG G)).lats.map _).length;rw [List.length_map,List.length_map]
  ·have hi':i<NL.tabs.length:=List.mem_range.1 hi
   obtain ⟨d,hd⟩:=getElem_lt hi'
   rw [L.tabOk_of (N:=⟨_,_,NL.tabs,_,_⟩) hd]
   show d.ok (2+(cleanOf (hashG G)).ins+(((cleanOf (hashG G)).lats.map LatD.init).length:Int)+(i:Int))=true
   rw [hLn];exact hL.ok i d hd
  ·obtain ⟨l,hl,rfl⟩:=List.mem_map.1 hs
   exact hsg l.next (List.mem_append.2 (Or.inr (List.mem_map_of_mem hl)))
  ·obtain ⟨o,ho,rfl⟩:=List.mem_map.1 hs
   exact hsg o (List.mem_append.2 (Or.inl ho))
 ·show ((cleanOf (hashG G)).outs.map _).length=_
  rw [List.length_map];exact hoJ
 ·show L.runT _ tr ((cleanOf (hashG G)).lats.map LatD.init)=_
  have hcyc:∀ row st,st.length=(cleanOf (hashG G)).lats.length→L.outT ⟨(cleanOf (hashG G)).ins,(cleanOf (hashG G)).lats.map LatD.init,NL.tabs,(cleanOf (hashG G)).lats.map fun l=>sg l.next.toNat,(cleanOf (hashG G)).outs.map fun o=>sg o.toNat⟩ (L.cycT ⟨(cleanOf (hashG G)).ins,(cleanOf (hashG G)).lats.map LatD.init,NL.tabs,(cleanOf (hashG G)).lats.map fun l=>sg l.next.toNat,(cleanOf (hashG G)).outs.map fun o=>sg o.toNat⟩ row st)=outN (cleanOf (hashG G)) (cycN (cleanOf (hashG G)) row st)∧L.nextT ⟨(cleanOf (hashG G)).ins,(cleanOf (hashG G)).lats.map LatD.init,NL.tabs,(cleanOf (hashG G)).lats.map fun l=>sg l.next.toNat,(cleanOf (hashG G)).outs.map fun o=>sg o.toNat⟩ (L.cycT ⟨(cleanOf (hashG G)).ins,(cleanOf (hashG G)).lats.map LatD.init,NL.tabs,(cleanOf (hashG G)).lats.map fun l=>sg l.next.toNat,(cleanOf (hashG G)).outs.map fun o=>sg o.toNat⟩ row st)=nextN (cleanOf (hashG G)) (cycN (cleanOf (hashG G)) row st):=fun row st hst=>by
   refine ⟨?_,?_⟩
   ·show ((cleanOf (hashG G)).outs.map fun o=>sg o.toNat).map _=(cleanOf (hashG G)).outs.map _
    rw [List.map_map]
    apply List.map_congr_left
    intro o ho
    have:=hE (List.mem_append.2 (Or.inl ho))
    exact laid_cyc hJ hL this.1.1 this.1.2 this.2 row st hst
   ·show ((cleanOf (hashG G)).lats.map fun l=>sg l.next.toNat).map _=(cleanOf (hashG G)).lats.map _
    rw [List.map_map]
    apply List.map_congr_left
    intro l hl
    have:=hE (List.mem_append.2 (Or.inr (List.mem_map_of_mem hl)))
    exact laid_cyc hJ hL this.1.1 this.1.2 this.2 row st hst
  have hrun:∀ (tr:List (List Bool)) (st:List Bool),st.length=(cleanOf (hashG G)).lats.length→L.runT ⟨(cleanOf (hashG G)).ins,(cleanOf (hashG G)).lats.map LatD.init,NL.tabs,(cleanOf (hashG G)).lats.map fun l=>sg l.next.toNat,(cleanOf (hashG G)).outs.map fun o=>sg o.toNat⟩ tr st=runN (cleanOf (hashG G)) tr st:=by
   intro tr
   induction tr with
   | nil=>intro st _;rfl
   | cons r tr ih =>
    intro st hst
    have hc:=hcyc r st hst
    rw [L.runT,hc.1,hc.2,ih _ (by unfold nextN;rw [List.length_map])];rfl
  have hlH:(hashG G).lats.length=G.lats.length:=by show (G.lats.map _).length=_;rw [List.length_map]
  have hig:(initN G).length=G.lats.length:=by unfold initN;rw [List.length_map]
  rw [hrun tr _ (by rw [List.length_map]),hiJ,run_same (G:=hashG G) (by rw [hlJ,hlH]) (fun row st hst=>clean_same hH row st hst) tr _ (by rw [hlH];exact hig),run_same (G:=G) hlH (fun row st hst=>hash_same hF row st hst) tr _ hig]
 ·-- the depth
  have hmu:=hash_mapG hF hH
  have hrho:=clean_map hH hJ
  have hok:=hash_ok hF
  have hfd:=(fd_ok hJ (Nat.le_refl (cleanOf (hashG G)).ands.length)).cp
  have hLab:=hC.label
  have hpos:∀ v:Nat,0≤(hashK (firstN G) G.ands).2.getD v 0:=fun v=>by
   rw [List.getD_eq_getElem?_getD]
   cases e:(hashK (firstN G) G.ands).2[v]? with
   | none=>exact Int.le_refl _
   | some y=>exact (hok.lits v y e).1
  have hM:(cleanOf (hashG G)).ands.length+firstN (cleanOf (hashG G))=nJ:=by omega
  have hTn:toV (firstN (hashG G)) (nkOf (hashG G)) nH=nJ:=by rw [toV_all hH];omega
  have back:∀ x,x ∈ endL (cleanOf (hashG G))→∃ y,y ∈ endL G∧0≤y∧y<2*(n:Int)∧x=litC (firstN (hashG G)) (nkOf (hashG G)) (renL (hashK (firstN G) G.ands).2 y)∧(x / 2).toNat=toV (firstN (hashG G)) (nkOf (hashG G)) (muH (hashK (firstN G) G.ands).2 (y.toNat / 2))∧(needV (hashG G) (muH (hashK (firstN G) G.ands).2 (y.toNat / 2))∧muH (hashK (firstN G) G.ands).2 (y.toNat / 2)<nH):=fun x hx=>by
   rw [endL_clean,endL_hash,List.map_map] at hx
   obtain ⟨y,hy,rfl⟩:=List.mem_map.1 hx
   have hyb:0≤y∧y<2*(n:Int):=by
    rcases List.mem_append.1 hy with h | h
    ·exact hF.outs y h
    ·obtain ⟨z,hz,rfl⟩:=List.mem_map.1 h
     exact hF.lats z hz
   have hfa2:=hF.all
   have hr:=(renL_ok hok hyb.1 (by omega)).1
   have hh:renL (hashK (firstN G) G.ands).2 y / 2=(hashK (firstN G) G.ands).2.getD (y / 2).toNat 0 / 2:=renL_half (hpos _)
   have hmv:(renL (hashK (firstN G) G.ands).2 y).toNat / 2=muH (hashK (firstN G) G.ands).2 (y.toNat / 2):=by
    unfold muH
    rw [show y.toNat / 2=(y / 2).toNat by omega,←hh];omega
   have hmem:renL (hashK (firstN G) G.ands).2 y ∈ endL (hashG G):=by rw [endL_hash];exact List.mem_map_of_mem hy
   have hneed:needV (hashG G) ((renL (hashK (firstN G) G.ands).2 y).toNat / 2):=by
    rcases List.mem_append.1 hmem with h | h
    ·exact (needV_end hH).1 _ h
    ·obtain ⟨z,hz,e⟩:=List.mem_map.1 h
     rw [←e];exact (needV_end hH).2 z hz
   have hHa:=hH.all
   have hHe:(hashG G).ands.length=(hashK (firstN G) G.ands).1.length:=rfl
   have hfe:=first_hash G
   obtain ⟨c1,_,_⟩:=litC_facts (first:=firstN (hashG G)) (nk:=nkOf (hashG G)) hr.1
   refine ⟨y,hy,hyb.1,hyb.2,rfl,?_,?_,?_⟩
   ·show (litC _ _ _ / 2).toNat=_
    rw [c1,hmv];omega
   ·rw [←hmv];exact hneed
   ·rw [←hmv];omega
  have hge:=lstV_ge' (firstN G) label (endL G) 0
  have hdof:∀ y,y ∈ endL G→dofL (firstN G) label y.toNat≤lstV (firstN G) label (endL G):=fun y hy=>hge.2 y hy
  have hflat:∀ y,y ∈ endL G→0≤y→y<2*(n:Int)→(needV (hashG G) (muH (hashK (firstN G) G.ands).2 (y.toNat / 2))∧muH (hashK (firstN G) G.ands).2 (y.toNat / 2)<nH)→dOf (Fd hJ (cleanOf (hashG G)).ands.length).2 (toV (firstN (hashG G)) (nkOf (hashG G)) (muH (hashK (firstN G) G.ands).2 (y.toNat / 2)))≤lstV (firstN G) label (endL G):=fun y hy h0 h1 hn=>by
   have hf:=flat hmu hrho (M:=firstN (cleanOf (hashG G))+(cleanOf (hashG G)).ands.length) (fun v _ hv=>by
    have:=toV_lt' hv.1 (v:=nH) hv.2
    rw [hTn] at this
    omega) hfd.kept hfd.deep hLab (y.toNat / 2) (by omega) hn
   refine Nat.le_trans hf ?_
   by_cases e:y.toNat / 2=0∨firstN G≤y.toNat / 2
   ·have:=hdof y hy
    unfold dofL at this
    rw [if_pos e] at this
    exact this
   ·rw [hz _ (by omega)];exact Nat.zero_le _
  have hmx:mxE (dOf (Fd hJ (cleanOf (hashG G)).ands.length).2) (endL (cleanOf (hashG G)))≤lstV (firstN G) label (endL G):=mxE_le _ (fun x hx=>by
   obtain ⟨y,hy,h0,h1,_,e2,hn⟩:=back x hx
   rw [e2];exact hflat y hy h0 h1 hn) _ (Nat.zero_le _)
  have hNf:(L.NtD.first ⟨(cleanOf (hashG G)).ins,(cleanOf (hashG G)).lats.map LatD.init,NL.tabs,(cleanOf (hashG G)).lats.map fun l=>sg l.next.toNat,(cleanOf (hashG G)).outs.map fun o=>sg o.toNat⟩).toNat=firstN (cleanOf (hashG G))+1:=by
   show (2+(cleanOf (hashG G)).ins+(((cleanOf (hashG G)).lats.map LatD.init).length:Int)).toNat=_
   rw [hLn];omega
  have each:∀ x,x ∈ endL (cleanOf (hashG G))→(L.dsN (firstN (cleanOf (hashG G))+1) NL.tabs).getD (sg x.toNat).toNat 0≤(lstV (firstN G) label (endL G):Int):=fun x hx=>by
   have hs:=hsig hx
   have hx0:=(hE hx).1
   obtain ⟨y,hy,h0,h1,ex,e2,hn⟩:=back x hx
   by_cases hz0:x.toNat / 2=0
   ·have hsm:sg x.toNat=0∨sg x.toNat=1:=by
     rcases (by omega:x.toNat=0∨x.toNat=1) with e | e
     ·rw [e];exact Or.inl hL.s0
     ·rw [e];exact Or.inr hL.s1
    rw [dsN_base _ _ (by omega)];omega
   ·refine Int.le_trans hs.dep ?_
    unfold dptL
    by_cases hg:x.toNat / 2<firstN (cleanOf (hashG G))
    ·rw [if_pos hg]
     by_cases hodd:x.toNat % 2=0
     ·rw [hodd];omega
     ·have hle:1≤lstV (firstN G) label (endL G):=by
       have hd:=hdof y hy
       unfold dofL at hd
       by_cases hy0:y.toNat / 2=0
       ·exfalso
        rw [hy0,hmu.zero,show toV (firstN (hashG G)) (nkOf (hashG G)) 0=0 from hrho.zero] at e2
        omega
       ·by_cases hyg:firstN G≤y.toNat / 2
        ·rw [if_pos (Or.inr hyg)] at hd
         have:=(hLab.ex (y.toNat / 2) (by omega) hyg).1
         omega
        ·rw [if_neg (by omega)] at hd
         have hsrc:=(gates_all (first:=firstN G) (by omega) G.ands hF.ands).src (y.toNat / 2) (by omega)
         have hgd:(hashK (firstN G) G.ands).2.getD (y / 2).toNat 0=2*((y.toNat / 2:Nat):Int):=by
          rw [List.getD_eq_getElem?_getD,show (y / 2).toNat=y.toNat / 2 by omega,hsrc];rfl
         have hrn:renL (hashK (firstN G) G.ands).2 y=y:=by
          unfold renL
          rw [hgd]
          unfold flipI
          split <;> (try split) <;> omega
         rw [hrn] at ex
         have hfe:=first_hash G
         have hxy:x % 2=y % 2:=by rw [ex];exact (litC_facts h0).2.1
         omega
      omega
    ·rw [if_neg hg]
     have h1':=(hU (x.toNat / 2) (by omega) (by omega)).1 ((hU (x.toNat / 2) (by omega) (by omega)).2 ⟨x,hx,by omega⟩)
     omega
  show L.maxD (L.dsN (L.NtD.first _).toNat NL.tabs) (((cleanOf (hashG G)).outs.map fun o=>sg o.toNat)++((cleanOf (hashG G)).lats.map fun l=>sg l.next.toNat))≤_
  rw [hNf]
  refine maxD_most _ _ (by omega) (fun s hs=>?_)
  rcases List.mem_append.1 hs with hs | hs
  ·obtain ⟨o,ho,rfl⟩:=List.mem_map.1 hs
   exact each o (List.mem_append.2 (Or.inl ho))
  ·obtain ⟨l,hl,rfl⟩:=List.mem_map.1 hs
   exact each l.next (List.mem_append.2 (Or.inr (List.mem_map_of_mem hl)))
end Go.Proofs.Ytlaljeobdddegaa

namespace Go.Proofs.Ytlaljeobdddegaa
open Go.RowKit Mp
theorem grw_of {H s g n c:Nat} {v:Value} (h:v.ownBlock=some g∨g=s) (hs:H≤s):Grw H v (.slice (some ⟨g,0,none⟩) n c):=by
 rcases h with h | h
 ·exact Or.inl h.symm
 ·exact Or.inr ⟨g,by omega,rfl⟩
theorem LsAt.both {C g1 n1 c1 g2 n2 c2 x:Nat} {w w1 w2 w3 w4:World} {cv lv:Value} {qs:List Qd} {ls:List Nat} {q:Qd} (h:LsAt C w cv lv qs ls) (b1:Bl w w1) (gr1:w1.grownBy w2 cv.ownBlock) (o1:w2.ownsRow C 60 1 (.slice (some ⟨g1,0,none⟩) n1 c1) (qs.length+1) (qs.map Qd.v++[q.v])) (p1:cv.ownBlock=some g1∨g1=w1.heap.size) (b3:Bl w2 w3) (gr2:w3.grownBy w4 lv.ownBlock) (o2:w4.ownsRow C 3 1 (.slice (some ⟨g2,0,none⟩) n2 c2) (ls.length+1) (ls.map nV++[nV x])) (p2:lv.ownBlock=some g2∨g2=w3.heap.size) (hq:QX w1 (fun b=>b<w.heap.size) q):LsAt C w4 (.slice (some ⟨g1,0,none⟩) n1 c1) (.slice (some ⟨g2,0,none⟩) n2 c2) (qs++[q]) (ls++[x])∧Below C w w4:=by
 have s1:=b1.size
 have s2:=gr1.size
 have s3:=b3.size
 have s4:=gr2.size
 have kc:∀ b,cv.ownBlock=some b→C≤b∧b<w.heap.size:=fun b hb=>⟨own_newB h.oc b hb,own_lt h.oc b hb⟩
 have kl:∀ b,lv.ownBlock=some b→C≤b∧b<w.heap.size:=fun b hb=>⟨own_newB h.ol b hb,own_lt h.ol b hb⟩
 have hg1:g1<w2.heap.size:=(own_lt o1 g1 rfl)
 have hf:¬ lv.ownBlock=some g1:=fun e=>by
  rcases p1 with p | p
  ·exact h.far g1 p e
  ·have:=(kl g1 e).2;omega
 refine ⟨h.next (fun b hb hn=>grow_two b1 gr1 b3 gr2 b hb (fun e=>hn (Or.inl e.symm)) (fun e=>hn (Or.inr e.symm))) (grw_of p1 s1) (grw_of p2 (by omega)) (own_kept (own_below o1 b3) gr2 (Or.inr fun e=>hf (by rw [←e];rfl))) o2 (fun k hk e=>?_) (hq.move (fun b hb hn=>?_) (fun b hb hn=>?_)) (by omega),?_⟩
 ·have e1:g1=k:=Option.some.inj hk
  have e2:g2=k:=Option.some.inj e
  rcases p2 with p | p
  ·exact hf (by rw [p,e1,e2])
  ·omega
 ·exact (gr2.block b (by omega) (fun e=>by have:=(kl b e.symm).2;omega)).trans ((b3.block b (by omega)).trans (gr1.block b hb (fun e=>by have:=(kc b e.symm).2;omega)))
 ·rintro (e | e)
  ·have e1:g1=b:=Option.some.inj e
   rcases p1 with p | p
   ·have:=(kc g1 p).2;omega
   ·omega
  ·have e1:g2=b:=Option.some.inj e
   rcases p2 with p | p
   ·have:=(kl g2 p).2;omega
   ·omega
 ·have hle:=h.le
  have t1:Below C w w1:=b1.mono hle
  have t2:Below C w1 w2:=grow_low gr1 (by omega) (fun k hk=>(kc k hk).1)
  have t3:Below C w2 w3:=b3.mono (by omega)
  have t4:Below C w3 w4:=grow_low gr2 (by omega) (fun k hk=>(kl k hk).1)
  exact t1.trans (t2.trans (t3.trans t4))
theorem LsAt.both2 {C g1 n1 c1 g2 n2 c2 x:Nat} {w w1 w2 w3 w4:World} {cv lv:Value} {qs:List Qd} {ls:List Nat} {q:Qd} (h:LsAt C w cv lv qs ls) (b1:Bl w w1) (gr1:w1.grownBy w2 lv.ownBlock) (p2:lv.ownBlock=some g2∨g2=w1.heap.size) (b3:Below w.heap.size w2 w3) (o3:w3.ownsRow C 3 1 (.slice (some ⟨g2,0,none⟩) n2 c2) (ls.length+1) (ls.map nV++[nV x])) (gr2:w3.grownBy w4 cv.ownBlock) (o1:w4.ownsRow C 60 1 (.slice (some ⟨g1,0,none⟩) n1 c1) (qs.length+1) (qs.map Qd.v++[q.v])) (p1:cv.ownBlock=some g1∨g1=w3.heap.size) (hq:QX w3 (fun b=>b<w.heap.size∨b=g2) q):LsAt C w4 (.slice (some ⟨g1,0,none⟩) n1 c1) (.slice (some ⟨g2,0,none⟩) n2 c2) (qs++[q]) (ls++[x])∧Below C w w4:=by
 have s1:=b1.size
 have s2:=gr1.size
 have s3:=b3.size
 have s4:=gr2.size
 have kc:∀ b,cv.ownBlock=some b→C≤b∧b<w.heap.size:=fun b hb=>⟨own_newB h.oc b hb,own_lt h.oc b hb⟩
 have kl:∀ b,lv.ownBlock=some b→C≤b∧b<w.heap.size:=fun b hb=>⟨own_newB h.ol b hb,own_lt h.ol b hb⟩
 have hg2:g2<w3.heap.size:=own_lt o3 g2 rfl
 have hf:¬ cv.ownBlock=some g2:=fun e=>by
  rcases p2 with p | p
  ·exact h.far g2 e p
  ·have:=(kc g2 e).2;omega
 refine ⟨h.next (fun b hb hn=>?_) (grw_of p1 (by omega)) (grw_of p2 s1) o1 (own_kept o3 gr2 (Or.inr fun e=>hf (by rw [←e];rfl))) (fun k hk e=>?_) (hq.move (fun b hb hn=>?_) (fun b hb hn=>?_)) (by omega),?_⟩
 ·exact (gr2.block b (by omega) (fun e=>hn (Or.inl e.symm))).trans ((b3.block b hb).trans ((gr1.block b (by omega) (fun e=>hn (Or.inr e.symm))).trans (b1.block b hb)))
 ·have e1:g1=k:=Option.some.inj hk
  have e2:g2=k:=Option.some.inj e
  rcases p1 with p | p
  ·exact hf (by rw [p,e1,e2])
  ·omega
 ·exact gr2.block b hb (fun e=>hn (Or.inl (kc b e.symm).2))
 ·rintro (e | e)
  ·have e1:g1=b:=Option.some.inj e
   rcases p1 with p | p
   ·exact hn (Or.inl (by have:=(kc g1 p).2;omega))
   ·omega
  ·exact hn (Or.inr (Option.some.inj e).symm)
 ·have hle:=h.le
  have t1:Below C w w1:=b1.mono hle
  have t2:Below C w1 w2:=grow_low gr1 (by omega) (fun k hk=>(kl k hk).1)
  have t3:Below C w2 w3:=b3.mono hle
  have t4:Below C w3 w4:=grow_low gr2 (by omega) (fun k hk=>(kc k hk).1)
  exact t1.trans (t2.trans (t3.trans t4))
def cutS (v:Nat):List (List Nat):=if v=0 then [[]] else [[v]]
theorem cutsD_start {G:Gr} {qs:List Qd} {ls:List Nat} (h:∀ v,v<G.first→(qs.map Qd.ls).getD v []=cutS v):CutsD G G.first (fun v=>(qs.map Qd.ls).getD v []) (fun v=>ls.getD v 0):=by
 refine ⟨h 0 G.pos,fun v h1 h2=>?_,fun v h1 h2=>by omega,fun v h1 h2=>by omega⟩
 show (qs.map Qd.ls).getD v []=_
 rw [h v h2];unfold cutS;rw [if_neg (by omega)]
def HDX (H:Nat) (w:World) (al:Value) (hs:List Hd):Prop:=∀ h,h ∈ hs→NumX w (fun b=>b<H∨al.ownBlock=some b) h.a h.l∧h.l.length≤4
theorem HDX.to {H:Nat} {w w':World} {al:Value} {hs:List Hd} (h:HDX H w al hs) (hb:Bl w w'):HDX H w' al hs:=fun x hx=>⟨(h x hx).1.move (fun b hb1 _=>hb.block b hb1) (fun _ _ hn=>hn),(h x hx).2⟩
theorem HDX.at_ {H:Nat} {w:World} {al:Value} {hs:List Hd} (h:HDX H w al hs):HdsAt w hs:=fun x hx=>⟨(h x hx).1.num,(h x hx).2⟩
theorem HDX.add {H:Nat} {w w':World} {al al':Value} {hs hs':List Hd} {c:Hd} (h:HDX H w al hs) (hb:Bl w w') (hc:NumX w (fun b=>b<H) c.a c.l) (hcl:c.l.length≤4) (hn:NewB w.heap.size al') (hm:∀ x,x ∈ hs'→x ∈ hs∨x=c):HDX H w' al' hs':=fun x hx=>by
 rcases hm x hx with hm | rfl
 ·refine ⟨(h x hm).1.move (fun b hb1 _=>hb.block b hb1) (fun b hb1 hnx=>?_),(h x hm).2⟩
  rintro (e | e)
  ·exact hnx (Or.inl e)
  ·have:=hn b e;omega
 ·refine ⟨hc.move (fun b hb1 _=>hb.block b hb1) (fun b hb1 hnx=>?_),hcl⟩
  rintro (e | e)
  ·exact hnx e
  ·have:=hn b e;omega
theorem ls_gate1 {C H bA nh gc:Nat} {wi wr w1 w2 w3:World} {cv lv:Value} {qs:List Qd} {ls:List Nat} {hs:List Hd} (h:LsAt C wi cv lv qs ls) (hH:H=wi.heap.size) (ho:wr.ownsRow H 24 1 (.slice (some ⟨bA,0,none⟩) nh gc) nh (hs.map Hd.v)) (b1:Bl wr w1) (gr:w1.grownBy w2 lv.ownBlock) (b3:Bl w2 w3):w3.ownsRow H 24 1 (.slice (some ⟨bA,0,none⟩) nh gc) nh (hs.map Hd.v) :=
 own_below (own_kept (own_below ho b1) gr (Or.inr fun e=>by
  have h1:=own_newB ho bA rfl
  have h2:=own_lt h.ol bA (by rw [←e];rfl)
  omega)) b3
theorem ls_gate2 {C H bA nh gc:Nat} {wi wr w1 w2 w3 w5:World} {cv lv:Value} {qs:List Qd} {ls:List Nat} {hs:List Hd} (h:LsAt C wi cv lv qs ls) (hH:H=wi.heap.size) (hb:Bl wi wr) (ho:wr.ownsRow H 24 1 (.slice (some ⟨bA,0,none⟩) nh gc) nh (hs.map Hd.v)) (b1:Bl wr w1) (gr:w1.grownBy w2 lv.ownBlock) (b3:Bl w2 w3) (g5:w3.grownBy w5 (some bA)):w5.ownsRow C 60 1 cv qs.length (qs.map Qd.v)∧C≤w5.heap.size:=by
 refine ⟨own_kept (own_below (own_kept (own_below (own_below h.oc hb) b1) gr ?_) b3) g5 ?_,?_⟩
 ·cases e:cv.ownBlock with
  | none=>exact Or.inl rfl
  | some b=>exact Or.inr (fun e2=>h.far b e e2.symm)
 ·cases e:cv.ownBlock with
  | none=>exact Or.inl rfl
  | some b =>
   refine Or.inr (fun e2=>?_)
   have h1:=own_newB ho bA rfl
   have h2:=own_lt h.oc b e
   have:=Option.some.inj e2
   omega
 ·have:=h.le;have:=hb.size;have:=b1.size;have:=gr.size;have:=b3.size;have:=g5.size;omega
theorem ls_gate {C H bA nh gc bc n0 c0 g1 n1 c1 g2 n2 c2 g5 c5 P N x:Nat} {wi wr w1 w2 w3 w5 w6 w7:World} {lv:Value} {qs:List Qd} {ls:List Nat} {hs:List Hd} (h:LsAt C wi (.slice (some ⟨bc,0,none⟩) n0 c0) lv qs ls) (hH:H=wi.heap.size) (hb:Bl wi wr) (ho:wr.ownsRow H 24 1 (.slice (some ⟨bA,0,none⟩) nh gc) nh (hs.map Hd.v)) (hd:HDX H wr (.slice (some ⟨bA,0,none⟩) nh gc) hs) (hnh:nh=hs.length) (b1:Bl wr w1) (gr:w1.grownBy w2 lv.ownBlock) (o2:w2.ownsRow C 3 1 (.slice (some ⟨g2,0,none⟩) n2 c2) (ls.length+1) (ls.map nV++[nV x])) (p2:lv.ownBlock=some g2∨g2=w1.heap.size) (b3:Bl w2 w3) (kP:Blk w3 P 3 #[.int .i64 (N:Nat)]) (hP:w2.heap.size≤P) (r5:w3.grownBy w5 (some bA)) (o5:w5.ownsRow H 24 1 (.slice (some ⟨g5,0,none⟩) (nh+1) c5) (nh+1) (hs.map Hd.v++[.slice (some ⟨P,0,none⟩) 1 1])) (p5:some bA=some g5∨g5=w3.heap.size) (b6:Bl w5 w6) (r7:w6.grownBy w7 (some bc)) (o7:w7.ownsRow C 60 1 (.slice (some ⟨g1,0,none⟩) n1 c1) (qs.length+1) (qs.map Qd.v++[.slice (some ⟨g5,0,none⟩) (nh+1) c5])) (p7:some bc=some g1∨g1=w6.heap.size) :
  LsAt C w7 (.slice (some ⟨g1,0,none⟩) n1 c1) (.slice (some ⟨g2,0,none⟩) n2 c2) (qs++[⟨some ⟨g5,0,none⟩,c5,hs++[⟨some ⟨P,0,none⟩,1,[N]⟩]⟩]) (ls++[x])∧Below C wi w7:=by
 have hA1:=own_newB ho bA rfl
 have hA2:=own_lt ho bA rfl
 have hg2:=own_lt o2 g2 rfl
 have hg5:=own_newB o5 g5 rfl
 have hg5l:=own_lt o5 g5 rfl
 have s0:=hb.size
 have s1:=b1.size
 have s2:=gr.size
 have s3:=b3.size
 have s5:=r5.size
 have s6:=b6.size
 have hPl:=kP.lt
 have klv:∀ b,lv.ownBlock=some b→b<H:=fun b e=>by rw [hH];exact own_lt h.ol b e
 have g2A:g2≠bA:=fun e=>by
  rcases p2 with p | p
  ·have:=klv g2 p;omega
  ·omega
 have g25:g5≠g2:=fun e=>by
  rcases p5 with p | p
  ·exact g2A (e.symm.trans (Option.some.inj p).symm)
  ·omega
 have same:∀ b,H≤b→b<wr.heap.size→b≠bA→w6.heap[b]?=wr.heap[b]?:=fun b h1 h2 h3=>by
  refine (b6.block b (by omega)).trans ((r5.block b (by omega) (fun e=>h3 (Option.some.inj e))).trans ((b3.block b (by omega)).trans ((gr.block b (by omega) (fun e=>?_)).trans (b1.block b h2))))
  have:=klv b e.symm;omega
 refine h.both2 (q:=⟨some ⟨g5,0,none⟩,c5,hs++[⟨some ⟨P,0,none⟩,1,[N]⟩]⟩) (hb.trans (b1.mono s0)) gr p2 ?_ (own_below (own_kept (own_below o2 b3) r5 (Or.inr fun e=>g2A (Option.some.inj e))) b6) r7 ?_ p7 ?_
 ·have t1:Below wi.heap.size w2 w3:=b3.mono (by omega)
  have t2:Below wi.heap.size w3 w5:=grow_low r5 (by omega) (fun k hk=>by have:=Option.some.inj hk;omega)
  exact t1.trans (t2.trans (b6.mono (by omega)))
 ·show World.ownsRow _ _ _ _ _ _ (qs.map Qd.v++[.slice (some ⟨g5,0,none⟩) (hs++[_]).length c5])
  rw [List.length_append,List.length_singleton,←hnh]
  exact o7
 ·refine ⟨fun k x hk=>?_,fun x hx=>?_⟩
  ·have o5':w5.ownsRow H 24 1 (.slice (some ⟨g5,0,none⟩) (nh+1) c5) (nh+1) ((hs++[(⟨some ⟨P,0,none⟩,1,[N]⟩:Hd)]).map Hd.v):=by rw [List.map_append];exact o5
   obtain ⟨a,c,e,_,hc⟩:=own_g o5'
   obtain ⟨b,e2,c2⟩:=hc k x hk
   simp only [Value.slice.injEq,true_and] at e
   rw [←e.1] at e2
   simp only [Option.some.injEq,Addr.mk.injEq,and_true] at e2
   subst e2
   refine ⟨g5,0,rfl,?_,?_⟩
   ·rintro (h1 | h1)
    ·omega
    ·exact g25 h1
   ·rw [Nat.zero_add]
    exact (b6.cell (p:=⟨g5,k,none⟩) hg5l).trans c2
  ·rcases List.mem_append.1 hx with hx | hx
   ·refine ⟨(hd x hx).1.move (fun b hb1 hn=>same b (by omega) hb1 (fun e=>hn (Or.inr (by rw [e];rfl)))) (fun b hb1 hn=>?_),(hd x hx).2⟩
    rintro (h1 | h1)
    ·exact hn (Or.inl (by omega))
    ·rcases p2 with p | p
     ·exact hn (Or.inl (by have:=klv g2 p;omega))
     ·omega
   ·obtain rfl:=List.mem_singleton.1 hx
    refine ⟨fun k y hk=>?_,by simp⟩
    cases k with
    | zero =>
     obtain rfl:=Option.some.inj hk
     refine ⟨P,0,rfl,?_,?_⟩
     ·rintro (h1 | h1) <;> omega
     ·have k5:Blk w5 P 3 #[.int .i64 (N:Nat)]:=blk_kept kP r5 (fun e=>by have:=Option.some.inj e;omega)
      exact (k5.below b6).cell (i:=0) rfl
    | succ k=>simp at hk
end Go.Proofs.Ytlaljeobdddegaa
