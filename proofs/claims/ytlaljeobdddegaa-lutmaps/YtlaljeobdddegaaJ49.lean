import Derived.Test.YtlaljeobdddegaaJ20
import Derived.Test.YtlaljeobdddegaaJ38
import Derived.Test.YtlaljeobdddegaaJ48
namespace Go.Proofs.Ytlaljeobdddegaa
open Go.RowKit
theorem needR_iff {G:GrD} {ni n:Nat} (hF:FineG G ni n) (v:Nat):On (needR G) v↔Nd (firstN G) (opsOf G) (nextsOf G++rootsV G) v:=by
 have h2:=hF.all
 have hops:∀ (i a b:Nat),(opsOf G)[i]?=some (a,b)→a<firstN G+i∧b<firstN G+i∧i<G.ands.length:=by
  intro i a b ho
  unfold opsOf at ho
  rw [List.getElem?_map] at ho
  cases hd:G.ands[i]? with
  | none=>rw [hd] at ho;cases ho
  | some d =>
   rw [hd] at ho
   have e:d.x.toNat / 2=a∧d.y.toNat / 2=b:=by simpa using ho
   have hin:=hF.ands i d hd
   have:=(List.getElem?_eq_some_iff.1 hd).1
   omega
 have hlen:(opsOf G).length=G.ands.length:=by unfold opsOf;simp
 have:=sweepC_all (first:=firstN G) (ops:=opsOf G) (roots:=nextsOf G++rootsV G) (nd:=nd0C G) (fun i a b ho=>⟨(hops i a b ho).1,(hops i a b ho).2.1⟩) (fun i a b ho=>by
  have:=hops i a b ho
  rw [nd0C_len];omega) (fun x=>?_) v
 ·rw [hlen] at this
  exact this
 ·unfold nd0C
  rw [marks_on,marks_on]
  ·have hF0:¬ On (List.replicate (firstN G+G.ands.length) false) x:=by
    unfold On
    rw [List.getElem?_replicate]
    split <;> simp
   rw [List.mem_append]
   unfold nextsOf rootsV
   simp [hF0]
  ·intro r hrm
   obtain ⟨o,ho,rfl⟩:=List.mem_map.1 hrm
   have:=hF.outs o ho
   rw [List.length_replicate];unfold vOf;omega
  ·intro r hrm
   obtain ⟨l,hlm,rfl⟩:=List.mem_map.1 hrm
   have:=hF.lats l hlm
   rw [marks_len,List.length_replicate];unfold nOf;omega
def needV (G:GrD) (v:Nat):Prop:=v<firstN G∨On (needR G) v
theorem needV_gate {G:GrD} {k:Nat} (h:needV G (firstN G+k)):(nkOf G)[k]?=some true:=by
 rcases h with h | h
 ·omega
 ·unfold nkOf;rw [List.getElem?_drop];exact h
theorem needV_end {G:GrD} {ni n:Nat} (hF:FineG G ni n):(∀ o,o ∈ G.outs→needV G (o.toNat / 2))∧∀ l,l ∈ G.lats→needV G (l.next.toNat / 2) :=
 ⟨fun _ ho=>Or.inr ((needR_iff hF _).2 (nd_root (List.mem_append.2 (Or.inr (List.mem_map_of_mem ho))))),fun _ hl=>Or.inr ((needR_iff hF _).2 (nd_root (List.mem_append.2 (Or.inl (List.mem_map_of_mem hl)))))⟩
theorem needV_down {G:GrD} {ni n:Nat} (hF:FineG G ni n) {k:Nat} {d:AndD} (hd:G.ands[k]?=some d) (h:needV G (firstN G+k)):needV G (d.x.toNat / 2)∧needV G (d.y.toNat / 2):=by
 rcases h with h | h
 ·omega
 ·have:=nd_op (i:=k) (a:=d.x.toNat / 2) (b:=d.y.toNat / 2) (by unfold opsOf;rw [List.getElem?_map,hd];rfl) ((needR_iff hF _).1 h)
  exact ⟨Or.inr ((needR_iff hF _).2 this.1),Or.inr ((needR_iff hF _).2 this.2)⟩
theorem kept_at {first:Nat} {nk:List Bool} {ands:List AndD} (hl:nk.length=ands.length) {k:Nat} {d:AndD} (hd:ands[k]?=some d) (hk:nk[k]?=some true):(keptA first nk ands)[(nk.take k).count true]?=some ⟨litC first nk d.x,litC first nk d.y⟩:=by
 have e1:keptA first nk ands=keptK first nk ands (k+1)++((ands.zip nk).drop (k+1)).filterMap fun x=>if x.2 then some ⟨litC first nk x.1.x,litC first nk x.1.y⟩ else none:=by
  unfold keptA keptK
  rw [←List.filterMap_append,List.take_append_drop]
 have e2:=keptK_next first nk ands k d true hd hk
 rw [e1,e2,←keptK_len first nk ands k hl,List.append_assoc]
 simp
theorem kept_len {first:Nat} {nk:List Bool} {ands:List AndD} (hl:nk.length=ands.length):(keptA first nk ands).length=nk.count true:=by
 rw [←keptK_all first nk ands hl,keptK_len first nk ands _ hl,←hl,List.take_length]
theorem kept_from {first:Nat} {nk:List Bool} {ands:List AndD} (hl:nk.length=ands.length):∀ (m i:Nat) (e:AndD),(keptK first nk ands m)[i]?=some e→∃ (k:Nat) (d:AndD),ands[k]?=some d∧nk[k]?=some true∧(nk.take k).count true=i∧e=⟨litC first nk d.x,litC first nk d.y⟩
 | 0,i,e,h=>by simp [keptK] at h
 | m+1,i,e,h=>by
  by_cases hm:m<ands.length
  ·obtain ⟨d,hd⟩:=getElem_lt hm
   obtain ⟨b,hb⟩:=getElem_lt (show m<nk.length by omega)
   rw [keptK_next first nk ands m d b hd hb] at h
   by_cases hi:i<(keptK first nk ands m).length
   ·rw [List.getElem?_append_left hi] at h
    exact kept_from hl m i e h
   ·rw [List.getElem?_append_right (by omega)] at h
    cases b with
    | false=>simp at h
    | true =>
     have h0:i - (keptK first nk ands m).length=0:=by
      have:=(List.getElem?_eq_some_iff.1 h).1
      simp at this
      omega
     rw [h0] at h
     refine ⟨m,d,hd,hb,?_,by simpa using h.symm⟩
     rw [←keptK_len first nk ands m hl];omega
  ·have:keptK first nk ands (m+1)=keptK first nk ands m:=by
    unfold keptK
    rw [List.take_of_length_le (by simp;omega),List.take_of_length_le (by simp;omega)]
   rw [this] at h
   exact kept_from hl m i e h
theorem count_take_lt {nk:List Bool} {k m:Nat} (hk:nk[k]?=some true) (hm:k<m):(nk.take k).count true<(nk.take m).count true:=by
 have h1:(nk.take (k+1)).count true=(nk.take k).count true+1:=by
  rw [List.take_add_one,hk,List.count_append];rfl
 have h2:(nk.take (k+1)).count true≤(nk.take m).count true:=by
  have:nk.take (k+1)=(nk.take m).take (k+1):=by rw [List.take_take,Nat.min_eq_left (by omega)]
  rw [this]
  exact (List.take_sublist _ _).count_le _
 omega
theorem toV_lt {G:GrD} {u v:Nat} (hu:needV G u) (h:u<v):toV (firstN G) (nkOf G) u<toV (firstN G) (nkOf G) v∨v<firstN G:=by
 by_cases hv:v<firstN G
 ·exact Or.inr hv
 ·left
  obtain ⟨m,rfl⟩:∃ m,v=firstN G+m:=⟨v - firstN G,by omega⟩
  rw [toV_gate]
  by_cases hf:u<firstN G
  ·rw [toV_low hf];omega
  ·obtain ⟨k,rfl⟩:∃ k,u=firstN G+k:=⟨u - firstN G,by omega⟩
   rw [toV_gate]
   have:=count_take_lt (needV_gate hu) (show k<m by omega)
   omega
theorem toV_lt' {G:GrD} {u v:Nat} (hu:needV G u) (h:u<v):toV (firstN G) (nkOf G) u<toV (firstN G) (nkOf G) v:=by
 by_cases hv:v<firstN G
 ·rw [toV_low hv,toV_low (by omega)];exact h
 ·rcases toV_lt hu h with h | h
  ·exact h
  ·omega
theorem clean_first (G:GrD):firstN (cleanOf G)=firstN G:=by unfold firstN cleanOf cleanG;simp
theorem toV_all {G:GrD} {ni n:Nat} (hF:FineG G ni n):toV (firstN G) (nkOf G) n=firstN (cleanOf G)+(cleanOf G).ands.length:=by
 have h2:=hF.all
 rw [←h2,toV_gate,clean_first]
 show _=firstN G+(keptA _ _ _).length
 rw [kept_len (nkOf_len G),←nkOf_len G,List.take_length]
theorem litC_facts {first:Nat} {nk:List Bool} {x:Int} (_:0≤x):litC first nk x / 2=(toV first nk (x.toNat / 2):Nat)∧litC first nk x % 2=x % 2∧0≤litC first nk x:=by
 unfold litC;omega
theorem clean_fine {G:GrD} {ni n:Nat} (hF:FineG G ni n):FineG (cleanOf G) ni (toV (firstN G) (nkOf G) n):=by
 have f1:=hF.first
 have f2:=hF.all
 have hc:=clean_first G
 have hta:=toV_all hF
 have hfew:(cleanOf G).ands.length≤G.ands.length:=by
  show (keptA _ _ _).length≤_
  rw [kept_len (nkOf_len G),←nkOf_len G]
  exact List.count_le_length
 refine ⟨hF.ins,?_,hta.symm,?_,?_,?_,?_,?_,?_⟩
 ·rw [hc,f1]
  show 1+ni+G.lats.length=1+ni+(G.lats.map _).length
  rw [List.length_map]
 ·have:=hF.le;rw [hta,hc];omega
 ·show (G.lats.map _).length≤_;rw [List.length_map];exact hF.ll
 ·show (G.outs.map _).length≤_;rw [List.length_map];exact hF.lo
 ·intro i e he
  rw [hc]
  have he':(keptK (firstN G) (nkOf G) G.ands G.ands.length)[i]?=some e:=by rw [keptK_all _ _ _ (nkOf_len G)];exact he
  obtain ⟨k,d,hd,hk,hi,rfl⟩:=kept_from (nkOf_len G) _ i e he'
  have hb:=hF.ands k d hd
  have hn:needV G (firstN G+k):=Or.inr (by have:=hk;unfold nkOf at this;rw [List.getElem?_drop] at this;exact this)
  obtain ⟨n1,n2⟩:=needV_down hF hd hn
  have t1:=toV_lt' n1 (v:=firstN G+k) (by omega)
  have t2:=toV_lt' n2 (v:=firstN G+k) (by omega)
  rw [toV_gate,hi] at t1 t2
  obtain ⟨c1,c2,c3⟩:=litC_facts (first:=firstN G) (nk:=nkOf G) hb.1.1
  obtain ⟨c4,c5,c6⟩:=litC_facts (first:=firstN G) (nk:=nkOf G) hb.2.1
  show (0≤litC _ _ d.x∧litC _ _ d.x<_)∧(0≤litC _ _ d.y∧litC _ _ d.y<_)
  omega
 ·intro z hz
  obtain ⟨l,hl,rfl⟩:=List.mem_map.1 hz
  have hb:=hF.lats l hl
  have t1:=toV_lt' ((needV_end hF).2 l hl) (v:=n) (by omega)
  obtain ⟨c1,c2,c3⟩:=litC_facts (first:=firstN G) (nk:=nkOf G) hb.1
  show 0≤litC _ _ l.next∧litC _ _ l.next<_
  omega
 ·intro z hz
  obtain ⟨o,ho,rfl⟩:=List.mem_map.1 hz
  have hb:=hF.outs o ho
  have t1:=toV_lt' ((needV_end hF).1 o ho) (v:=n) (by omega)
  obtain ⟨c1,c2,c3⟩:=litC_facts (first:=firstN G) (nk:=nkOf G) hb.1
  show 0≤litC _ _ o∧litC _ _ o<_
  omega
theorem ands_val {first:Nat} {hs:List AndD} (h:AndsLow first hs) {v0:List Bool} (hv:v0.length=first) {i:Nat} {d:AndD} (hd:hs[i]?=some d):(andsN v0 hs)[first+i]?=some (litV (andsN v0 hs) d.x && litV (andsN v0 hs) d.y):=by
 have hi:=(List.getElem?_eq_some_iff.1 hd).1
 have hl:=h i d hd
 have e1:hs=hs.take i++[d]++hs.drop (i+1):=by
  rw [←take_next hs i d hd,List.take_append_drop]
 obtain ⟨r,hr⟩:=ands_app v0 (hs.take i++[d]) (hs.drop (i+1))
 rw [←e1,ands_snoc] at hr
 have hlen:(andsN v0 (hs.take i)).length=first+i:=by rw [ands_length,List.length_take,hv];omega
 generalize andsN v0 (hs.take i)=V at *
 rw [hr]
 have e2:∀ x:Int,0≤x→x<2*((first:Int)+(i:Int))→litV (V++[litV V d.x && litV V d.y]++r) x=litV V x:=fun x h0 h1=>by
  rw [List.append_assoc];exact litV_app _ _ x h0 (by rw [hlen];omega)
 rw [e2 d.x (by omega) (by omega),e2 d.y (by omega) (by omega),←hlen,List.append_assoc,List.getElem?_append_right (Nat.le_refl _)]
 simp
theorem ands_base {v0:List Bool} (hs:List AndD) {i:Nat} (hi:i<v0.length):(andsN v0 hs)[i]?=v0[i]?:=by
 obtain ⟨r,hr⟩:=ands_app v0 [] hs
 rw [List.nil_append] at hr
 rw [hr]
 show (v0++r)[i]?=_
 rw [List.getElem?_append_left hi]
theorem clean_val {G:GrD} {ni n:Nat} (hF:FineG G ni n) {v0:List Bool} (hv:v0.length=firstN G) (v:Nat) (hn:needV G v) (hvn:v<n):(andsN v0 (cleanOf G).ands)[toV (firstN G) (nkOf G) v]?=(andsN v0 G.ands)[v]?:=by
 induction v using Nat.strongRecOn with
 | _ v ih =>
  have f2:=hF.all
  by_cases hl:v<firstN G
  ·rw [toV_low hl,ands_base _ (by omega),ands_base _ (by omega)]
  ·obtain ⟨k,rfl⟩:∃ k,v=firstN G+k:=⟨v - firstN G,by omega⟩
   obtain ⟨d,hd⟩:=getElem_lt (show k<G.ands.length by omega)
   have hb:=hF.ands k d hd
   have hk:=needV_gate hn
   obtain ⟨n1,n2⟩:=needV_down hF hd hn
   have hlow:AndsLow (firstN G) (cleanOf G).ands:=by
    have:=(clean_fine hF).ands
    rw [clean_first] at this
    exact this
   rw [toV_gate,ands_val hlow hv (kept_at (nkOf_len G) hd hk),ands_val hF.ands hv hd]
   obtain ⟨c1,c2,c3⟩:=litC_facts (first:=firstN G) (nk:=nkOf G) hb.1.1
   obtain ⟨c4,c5,c6⟩:=litC_facts (first:=firstN G) (nk:=nkOf G) hb.2.1
   have i1:=ih (d.x.toNat / 2) (by omega) n1 (by omega)
   have i2:=ih (d.y.toNat / 2) (by omega) n2 (by omega)
   have e1:litV (andsN v0 (cleanOf G).ands) (litC (firstN G) (nkOf G) d.x)=litV (andsN v0 G.ands) d.x:=by
    unfold litV
    rw [c1,c2,Int.toNat_natCast,i1,show (d.x / 2).toNat=d.x.toNat / 2 by omega]
   have e2:litV (andsN v0 (cleanOf G).ands) (litC (firstN G) (nkOf G) d.y)=litV (andsN v0 G.ands) d.y:=by
    unfold litV
    rw [c4,c5,Int.toNat_natCast,i2,show (d.y / 2).toNat=d.y.toNat / 2 by omega]
   show some (litV (andsN v0 (cleanOf G).ands) _ && litV (andsN v0 (cleanOf G).ands) _)=_
   rw [e1,e2]
theorem clean_same {G:GrD} {ni n:Nat} (hF:FineG G ni n) (row st:List Bool) (hst:st.length=G.lats.length):outN (cleanOf G) (cycN (cleanOf G) row st)=outN G (cycN G row st)∧nextN (cleanOf G) (cycN (cleanOf G) row st)=nextN G (cycN G row st):=by
 have f1:=hF.first
 have f2:=hF.all
 have hins:=hF.ins
 have hv:([false]++inRow G.ins.toNat row++st).length=firstN G:=by
  simp only [List.length_append,List.length_cons,List.length_nil,inRow_length,hst]
  rw [f1,hins];omega
 have key:∀ x:Int,0≤x→x<2*(n:Int)→needV G (x.toNat / 2)→litV (cycN (cleanOf G) row st) (litC (firstN G) (nkOf G) x)=litV (cycN G row st) x:=fun x h0 h1 hn=>by
  have i1:=clean_val hF hv (x.toNat / 2) hn (by omega)
  obtain ⟨c1,c2,c3⟩:=litC_facts (first:=firstN G) (nk:=nkOf G) h0
  unfold cycN litV
  show ((andsN ([false]++inRow G.ins.toNat row++st) (cleanOf G).ands)[_]?.getD false != _)=_
  rw [c1,c2,Int.toNat_natCast,i1,show (x / 2).toNat=x.toNat / 2 by omega]
 refine ⟨?_,?_⟩
 ·unfold outN
  show (G.outs.map _).map _=_
  rw [List.map_map]
  apply List.map_congr_left
  intro o ho
  have:=hF.outs o ho
  exact key o this.1 this.2 ((needV_end hF).1 o ho)
 ·unfold nextN
  show (G.lats.map _).map _=_
  rw [List.map_map]
  apply List.map_congr_left
  intro l hl
  have:=hF.lats l hl
  exact key l.next this.1 this.2 ((needV_end hF).2 l hl)
theorem clean_map {G:GrD} {ni n:Nat} (hF:FineG G ni n) {n2:Nat} (hC:FineG (cleanOf G) ni n2):Mp.CleanM (grG hF) (grG hC) (fun v=>needV G v∧v<n) (toV (firstN G) (nkOf G)):=by
 have f1:=hF.first
 have f2:=hF.all
 have hc:=clean_first G
 have gat:∀ v,needV G v→v<n→firstN G≤v→∃ k d,v=firstN G+k∧G.ands[k]?=some d:=fun v _ h2 h3=>by
  obtain ⟨d,hd⟩:=getElem_lt (show v - firstN G<G.ands.length by omega)
  exact ⟨v - firstN G,d,by omega,hd⟩
 refine ⟨toV_low (by omega),fun v hv hl=>?_,fun v hv hl=>?_,fun v hv hl=>?_⟩
 ·show toV _ _ v<firstN (cleanOf G)
  have hl':v<firstN G:=hl
  rw [hc,toV_low hl'];exact hl'
 ·obtain ⟨k,d,rfl,hd⟩:=gat v hv.1 hv.2 hl
  have hb:=hF.ands k d hd
  obtain ⟨n1,n2⟩:=needV_down hF hd hv.1
  obtain ⟨ea,eb⟩:=grA_at (first:=firstN G) hd
  show (needV G (grA (firstN G) G.ands (firstN G+k))∧_)∧(needV G (grB (firstN G) G.ands (firstN G+k))∧_)
  show (needV G (grA (firstN G) G.ands (firstN G+k))∧grA (firstN G) G.ands (firstN G+k)<n)∧(needV G (grB (firstN G) G.ands (firstN G+k))∧grB (firstN G) G.ands (firstN G+k)<n)
  rw [ea,eb,show (d.x / 2).toNat=d.x.toNat / 2 by omega,show (d.y / 2).toNat=d.y.toNat / 2 by omega]
  exact ⟨⟨n1,by omega⟩,n2,by omega⟩
 ·obtain ⟨k,d,rfl,hd⟩:=gat v hv.1 hv.2 hl
  have hb:=hF.ands k d hd
  obtain ⟨ea,eb⟩:=grA_at (first:=firstN G) hd
  have hk:=needV_gate hv.1
  have hka:=kept_at (first:=firstN G) (nkOf_len G) hd hk
  obtain ⟨ja,jb⟩:=grA_at (first:=firstN G) (ands:=(cleanOf G).ands) hka
  obtain ⟨c1,c2,c3⟩:=litC_facts (first:=firstN G) (nk:=nkOf G) hb.1.1
  obtain ⟨c4,c5,c6⟩:=litC_facts (first:=firstN G) (nk:=nkOf G) hb.2.1
  show firstN (cleanOf G)≤toV _ _ (firstN G+k)∧((grA (firstN (cleanOf G)) (cleanOf G).ands (toV _ _ (firstN G+k))=toV _ _ (grA (firstN G) G.ands (firstN G+k))∧grB (firstN (cleanOf G)) (cleanOf G).ands (toV _ _ (firstN G+k))=toV _ _ (grB (firstN G) G.ands (firstN G+k)))∨_)
  rw [toV_gate,hc,ja,jb,ea,eb,show (d.x / 2).toNat=d.x.toNat / 2 by omega,show (d.y / 2).toNat=d.y.toNat / 2 by omega]
  refine ⟨by omega,Or.inl ⟨?_,?_⟩⟩
  ·show (litC (firstN G) (nkOf G) d.x / 2).toNat=_;rw [c1];omega
  ·show (litC (firstN G) (nkOf G) d.y / 2).toNat=_;rw [c4];omega
end Go.Proofs.Ytlaljeobdddegaa

namespace Go.Proofs.Ytlaljeobdddegaa
open Go.RowKit Mp
def MapO (G:GrD) (N:L.NtD):Prop:=∃ (ni n:Nat) (hF:FineG (cleanOf (hashG G)) ni n) (U:Nat→Nat),LaidO (ValG (grG hF) (iaG (cleanOf (hashG G))) (ibG (cleanOf (hashG G))) n) (firstN (cleanOf (hashG G))) n U (cleanOf (hashG G)) N∧∀ u,firstN (cleanOf (hashG G))≤u→u<n→(0<U u→U u≤mxE (dOf (Fd hF (cleanOf (hashG G)).ands.length).2) (endL (cleanOf (hashG G))))∧((∃ x,x ∈ endL (cleanOf (hashG G))∧(x / 2).toNat=u)→0<U u)
theorem hash_fine {G:GrD} {ni n:Nat} (hF:FineG G ni n):∃ n',FineG (hashG G) ni n':=by
 obtain ⟨ni',n',h⟩:=fine_of (hash_valid hF)
 have e1:=hF.ins
 have e2:(hashG G).ins=(ni':Int):=h.ins
 have e3:(hashG G).ins=G.ins:=rfl
 have:ni'=ni:=by omega
 subst this
 exact ⟨n',h⟩
set_option maxRecDepth 100000 in
set_option maxHeartbeats 8000000 in
theorem map_any (B:Nat) (w:World) (S:GrS) (G:GrD) (h:GrAt B w S G) (hB:B≤w.heap.size) (hok:GrOk G=true) :
  Calls Try.prog 7 #[.agg (S.cells G)] w fun e w'=>∃ (T:L.NtS) (N:L.NtD),e = .returned (.agg (T.cells N))∧Hid (L.NtAt w'.heap.size w' T N)∧Hid (T.a1=none→T.c1=0∧N.init=[])∧Hid (MapO G N)∧Hid (Bl w w'):=by
 obtain ⟨ni,n,hF⟩:=fine_of hok
 obtain ⟨n1,hF1⟩:=hash_fine hF
 have hF2:=clean_fine hF1
 have VL:Hid (∀ w',Bl w w'→Calls Try.prog 17 #[.agg (S.cells G)] w' fun e w''=>e = .returned (.bool true)∧Below w'.heap.size w' w''):=fun w' hw'=>by
  have:=valid_any B w' S G (h.to (hw'.mono hB)) (Nat.le_trans hB hw'.size)
  rw [hok] at this
  exact this
 have HH:Hid (∀ w',Bl w w'→Calls Try.prog 19 #[.agg (S.cells G)] w' fun e w''=>(∃ T,e = .returned (.agg (T.cells (hashG G)))∧GrAt w''.heap.size w'' T (hashG G))∧Below w'.heap.size w' w''):=fun w' hw'=>hash_any B w' S G (h.to (hw'.mono hB)) (Nat.le_trans hB hw'.size) hok
 have HC:Hid (∀ (w':World) (T:GrS),GrAt w'.heap.size w' T (hashG G)→Calls Try.prog 18 #[.agg (T.cells (hashG G))] w' fun e w''=>(∃ T',e = .returned (.agg (T'.cells (cleanOf (hashG G))))∧GrAt w''.heap.size w'' T' (cleanOf (hashG G))∧(T'.a3=none→T'.c3=0)∧NewAt w'.heap.size T')∧Below w'.heap.size w' w''):=fun w' T hT=>clean_any w'.heap.size w' T (hashG G) hT (Nat.le_refl _) (hash_valid hF)
 have HM:Hid (∀ N U,LaidO (ValG (grG hF2) (iaG (cleanOf (hashG G))) (ibG (cleanOf (hashG G))) (toV (firstN (hashG G)) (nkOf (hashG G)) n1)) (firstN (cleanOf (hashG G))) (toV (firstN (hashG G)) (nkOf (hashG G)) n1) U (cleanOf (hashG G)) N→(∀ u,firstN (cleanOf (hashG G))≤u→u<toV (firstN (hashG G)) (nkOf (hashG G)) n1→(0<U u→U u≤mxE (dOf (Fd hF2 (cleanOf (hashG G)).ands.length).2) (endL (cleanOf (hashG G))))∧((∃ x,x ∈ endL (cleanOf (hashG G))∧(x / 2).toNat=u)→0<U u))→MapO G N):=fun N U h1 h2=>⟨ni,_,hF2,U,h1,h2⟩
 obtain ⟨n2,En2⟩:=exh (toV (firstN (hashG G)) (nkOf (hashG G)) n1)
 have HCO:Hid (∀ (B:Nat) (w:World) (gb:Nat) (S:GrS),GIn B w gb S (cleanOf (hashG G))→(S.a3=none→S.c3=0)→Calls Try.prog 21 #[.pointer (some ⟨gb,0,none⟩)] w fun e w'=>∃ (D:ChS) (C:Nat) (U:Nat→Nat) (gs:List Nat) (Ls:List (List Nat)) (bs:List Nat) (gv lv ev bv:Value),e = .returned (.pointer (some ⟨D.cb,4,none⟩))∧w.heap.size≤D.cb∧Hid (CvAt C w' D U gs Ls bs gv lv ev bv)∧Hid (CovI (ValG (grG hF2) (iaG (cleanOf (hashG G))) (ibG (cleanOf (hashG G))) (toV (firstN (hashG G)) (nkOf (hashG G)) n1)) (firstN (cleanOf (hashG G))) (toV (firstN (hashG G)) (nkOf (hashG G)) n1) (dOf (Fd hF2 (cleanOf (hashG G)).ands.length).2) (mxE (dOf (Fd hF2 (cleanOf (hashG G)).ands.length).2) (endL (cleanOf (hashG G)))) (fun u=>∃ x,x ∈ endL (cleanOf (hashG G))∧(x / 2).toNat=u) (firstN (cleanOf (hashG G))) U gs Ls bs)∧Hid (Bl w w')):=fun B w gb S h1 h2=>covered_any B w gb S _ ni _ hF2 h1 h2
 have HLA:Hid (∀ (B:Nat) (w:World) (gb:Nat) (S:GrS),GIn B w gb S (cleanOf (hashG G))→(S.a3=none→S.c3=0)→∀ (D:ChS) (C:Nat) (U:Nat→Nat) (gs:List Nat) (Ls:List (List Nat)) (bs:List Nat) (gv lv ev bv:Value),CvAt C w D U gs Ls bs gv lv ev bv→∀ (dp:Nat→Nat) (dl:Nat) (E:Nat→Prop),CovI (ValG (grG hF2) (iaG (cleanOf (hashG G))) (ibG (cleanOf (hashG G))) (toV (firstN (hashG G)) (nkOf (hashG G)) n1)) (firstN (cleanOf (hashG G))) (toV (firstN (hashG G)) (nkOf (hashG G)) n1) dp dl E (firstN (cleanOf (hashG G))) U gs Ls bs→Calls Try.prog 20 #[.pointer (some ⟨gb,0,none⟩),.pointer (some ⟨D.cb,4,none⟩)] w fun e w'=>∃ (T:L.NtS) (N:L.NtD),e = .returned (.agg (T.cells N))∧Hid (∀ (r:Nat) (v:World),r<w.heap.size→But r w' v→L.NtAt v.heap.size v T N)∧Hid (T.a1=none→T.c1=0∧N.init=[])∧Hid (LaidO (ValG (grG hF2) (iaG (cleanOf (hashG G))) (ibG (cleanOf (hashG G))) (toV (firstN (hashG G)) (nkOf (hashG G)) n1)) (firstN (cleanOf (hashG G))) (toV (firstN (hashG G)) (nkOf (hashG G)) n1) U (cleanOf (hashG G)) N)∧Hid (Bl w w')):=fun B w gb S h1 h2 D C U gs Ls bs gv lv ev bv h3 dp dl E h4=>laid_any _ (fun val hv=>hv.zero) B w gb S _ ni _ hF2 h1 h2 D C U gs Ls bs gv lv ev bv h3 dp dl E h4
 generalize ValG (grG hF2) (iaG (cleanOf (hashG G))) (ibG (cleanOf (hashG G))) (toV (firstN (hashG G)) (nkOf (hashG G)) n1)=PP at *
 generalize mxE (dOf (Fd hF2 (cleanOf (hashG G)).ands.length).2) (endL (cleanOf (hashG G)))=dl at *
 generalize dOf (Fd hF2 (cleanOf (hashG G)).ands.length).2=dp at *
 rw [←En2.out] at HM HCO HLA
 have HHF2:=hidden hF2
 generalize cleanOf (hashG G)=J at *
 clear hF hF1 hF2 h hok HHF2
 generalize hashG G=H at *
 unfold GrS.cells at VL HH HC ⊢
 go_enter Try.func7,Try.ntmps7
 go_upto_region 1 with fail
 obtain ⟨gb,Egb⟩:=exh w.heap.size
 obtain ⟨rb,Erb⟩:=exh (w.heap.size+1)
 generalize hW0:World.alloc (World.alloc w _) _=w0
 have HB0:Hid (Bl w w0):=by rw [←hW0];exact ((Below.refl _ _).alloc (Nat.le_refl _) _).alloc (by simp) _
 have HKG:Hid (Blk w0 gb 26 #[.int .i64 G.ins,.slice S.a1 G.lats.length S.c1,.slice S.a2 G.ands.length S.c2,.slice S.a3 G.outs.length S.c3]):=by
  rw [←hW0,Egb.out]
  exact (Blk.new w _ _).below ((Below.refl _ _).alloc (Nat.le_refl _) _)
 have HKR:Hid (Blk w0 rb 34 #[.int .i64 0,.slice none 0 0,.slice none 0 0,.slice none 0 0,.slice none 0 0]):=by
  rw [←hW0,show rb=(w.alloc (.cells #[.int .i64 G.ins,.slice S.a1 G.lats.length S.c1,.slice S.a2 G.ands.length S.c2,.slice S.a3 G.outs.length S.c3] 26)).heap.size by rw [Erb.out];simp]
  exact Blk.new _ _ _
 rw [←Erb.out,←Egb.out]
 have hgr:gb≠rb:=by have:=Egb.out;have:=Erb.out;omega
 have hwg:w.heap.size≤gb:=by rw [Egb.out];exact Nat.le_refl _
 have hwr:w.heap.size≤rb:=by rw [Erb.out];omega
 clear hW0 Egb Erb
 have p0:=HKG.out.cell (i:=0) rfl
 have p1:=HKG.out.cell (i:=1) rfl
 have p2:=HKG.out.cell (i:=2) rfl
 have p3:=HKG.out.cell (i:=3) rfl
 have V0:=hidden (VL.out w0 HB0.out)
 go_wp2_with fail
 go_at_call 17
 refine V0.out.mono ?_
 rintro e w1 ⟨rfl,hb1⟩
 have HB1:Hid (Bl w w1):=Bl.tr HB0.out hb1
 have HKG1:=hidden (HKG.out.below hb1)
 have HKR1:=hidden (HKR.out.below hb1)
 clear hb1 V0 VL HKG HKR HB0 p0 p1 p2 p3
 have p0:=HKG1.out.cell (i:=0) rfl
 have p1:=HKG1.out.cell (i:=1) rfl
 have p2:=HKG1.out.cell (i:=2) rfl
 have p3:=HKG1.out.cell (i:=3) rfl
 have H1:=hidden (HH.out w1 HB1.out)
 go_wp2_with fail
 go_at_call 19
 refine H1.out.mono ?_
 rintro e w2 ⟨⟨T2,rfl,hat2⟩,hb2⟩
 have HB2:Hid (Bl w w2):=Bl.tr HB1.out hb2
 have HKG2:=hidden (HKG1.out.below hb2)
 have HKR2:=hidden (HKR1.out.below hb2)
 have C2:=hidden (HC.out w2 T2 hat2)
 obtain ⟨H2,EH2⟩:=exh w2.heap.size
 have hg2:gb<H2:=by rw [EH2.out];exact HKG2.out.lt
 clear hb2 H1 HH HKG1 HKR1 HB1 p0 p1 p2 p3 hat2 HC
 unfold GrS.cells at C2
 go_wp2_with fail
 go_at_call 18
 refine C2.out.mono ?_
 rintro e w3 ⟨⟨T,rfl,hat3,hnil3,hnw3⟩,hb3⟩
 rw [←EH2.out] at hnw3
 have HB3:Hid (Bl w w3):=Bl.tr HB2.out hb3
 have HKG3:=hidden (HKG2.out.below hb3)
 have HKR3:=hidden (HKR2.out.below hb3)
 have HAT3:=hidden hat3
 have HNIL3:=hidden hnil3
 have HNW3:=hidden hnw3
 clear hb3 C2 HKG2 HKR2 HB2 hat3 hnil3 hnw3
 have r0:=HKG3.out.cell (i:=0) rfl
 have r1:=HKG3.out.cell (i:=1) rfl
 have r2:=HKG3.out.cell (i:=2) rfl
 have r3:=HKG3.out.cell (i:=3) rfl
 have f0:=HKG3.out.frozen 0
 have f1:=HKG3.out.frozen 1
 have f2:=HKG3.out.frozen 2
 have f3:=HKG3.out.frozen 3
 go_wp2_with fail
 go_at_call 21
 obtain ⟨z0,z1,z2,z3⟩:=set4 r0 r1 r2 r3 (.int .i64 J.ins) (.slice T.a1 J.lats.length T.c1) (.slice T.a2 J.ands.length T.c2) (.slice T.a3 J.outs.length T.c3)
 have hg4:=set4H w3 gb (.int .i64 J.ins) (.slice T.a1 J.lats.length T.c1) (.slice T.a2 J.ands.length T.c2) (.slice T.a3 J.outs.length T.c3)
 generalize World.setCell _ (⟨gb,3,none⟩:Addr) _=w4 at hg4 z0 z1 z2 z3 ⊢
 have hbx:BoxAt w4 gb T J:=⟨Nat.lt_of_lt_of_le HKG3.out.lt hg4.size,z0,z1,z2,z3⟩
 have hat4:=HAT3.out.set HNW3.out hg2 hg4
 have hgi:GIn w4.heap.size w4 gb T J:=⟨hbx,hat4,Nat.lt_of_lt_of_le HKG3.out.lt hg4.size,Nat.le_refl _⟩
 have HGI:=hidden hgi
 have HB4:Hid (Bl w w4):=HB3.out.trans (below_grown hg4 HB3.out.size (fun k hk=>by have:=Option.some.inj hk;omega))
 have HKR4:Hid (Blk w4 rb 34 #[.int .i64 0,.slice none 0 0,.slice none 0 0,.slice none 0 0,.slice none 0 0]):=blk_kept HKR3.out hg4 (fun e=>hgr (Option.some.inj e).symm)
 have CO:=hidden (HCO.out w4.heap.size w4 gb T hgi HNIL3.out)
 clear r0 r1 r2 r3 f0 f1 f2 f3 z0 z1 z2 z3 hg4 hbx hat4 hgi HCO HB3 HKG3 HKR3 HAT3 HNW3
 refine CO.out.mono ?_
 rintro e w5 ⟨D,C,U,gs,Ls,bs,gv,lv,ev,bv,rfl,hcb,HCV,HCI,HB5⟩
 have HGI5:=hidden (HGI.out.to HB5.out)
 have HB5w:Hid (Bl w w5):=Bl.tr HB4.out HB5.out
 have HKR5:=hidden (HKR4.out.below HB5.out)
 have LA:=hidden (HLA.out w4.heap.size w5 gb T HGI5.out HNIL3.out D C U gs Ls bs gv lv ev bv HCV.out _ _ _ HCI.out)
 obtain ⟨cb,Ecb⟩:=exh D.cb
 rw [←Ecb.out] at LA
 rw [←Ecb.out]
 have hrH:rb<w5.heap.size:=HKR5.out.lt
 have HRH:=hidden hrH
 clear CO HB5 HCV HGI HGI5 HLA HB4 HKR4 hrH
 go_wp2_with fail
 go_at_call 20
 refine LA.out.mono ?_
 rintro e w6 ⟨TN,N,rfl,HNT,HNN,HLO,HB6⟩
 have HB6w:Hid (Bl w w6):=Bl.tr HB5w.out HB6.out
 have HKR6:=hidden (HKR5.out.below HB6.out)
 have HMO:Hid (MapO G N):=HM.out N U HLO.out (fun u h1 h2=>⟨fun h3=>(HCI.out.ok u h1 h2 h3).2,fun h3=>HCI.out.ends u h3 h1 h2⟩)
 have r0:=HKR6.out.cell (i:=0) rfl
 have r1:=HKR6.out.cell (i:=1) rfl
 have r2:=HKR6.out.cell (i:=2) rfl
 have r3:=HKR6.out.cell (i:=3) rfl
 have r4:=HKR6.out.cell (i:=4) rfl
 have f0:=HKR6.out.frozen 0
 have f1:=HKR6.out.frozen 1
 have f2:=HKR6.out.frozen 2
 have f3:=HKR6.out.frozen 3
 have f4:=HKR6.out.frozen 4
 unfold L.NtS.cells
 obtain ⟨n0,En0⟩:=exh N.ins
 obtain ⟨l1,El1⟩:=exh N.init.length
 obtain ⟨l2,El2⟩:=exh N.tabs.length
 obtain ⟨l3,El3⟩:=exh N.next.length
 obtain ⟨l4,El4⟩:=exh N.outs.length
 rw [←En0.out,←El1.out,←El2.out,←El3.out,←El4.out]
 clear LA HLO HM HCI HKR5 HKR6 HB5w HB6
 go_wp2
 obtain ⟨z0,z1,z2,z3,z4⟩:=set5 r0 r1 r2 r3 r4 (.int .i64 n0) (.slice TN.a1 l1 TN.c1) (.slice TN.a2 l2 TN.c2) (.slice TN.a3 l3 TN.c3) (.slice TN.a4 l4 TN.c4)
 have HG9:=hidden (set5_but w6 rb (.int .i64 n0) (.slice TN.a1 l1 TN.c1) (.slice TN.a2 l2 TN.c2) (.slice TN.a3 l3 TN.c3) (.slice TN.a4 l4 TN.c4))
 generalize World.setCell _ (⟨rb,4,none⟩:Addr) _=w9 at HG9 z0 z1 z2 z3 z4 ⊢
 clear r0 r1 r2 r3 r4 f0 f1 f2 f3 f4
 refine bodyPost_ret (v:=.agg #[.int .i64 n0,.slice TN.a1 l1 TN.c1,.slice TN.a2 l2 TN.c2,.slice TN.a3 l3 TN.c3,.slice TN.a4 l4 TN.c4]) (by simp [results,Try.results7,go_sem, *]) rfl ?_
 exact ⟨TN,N,by rw [En0.out,El1.out,El2.out,El3.out,El4.out];rfl,HNT.out rb w9 HRH.out HG9.out,HNN.out,HMO.out,HB6w.out.trans (HG9.out.below hwr HB6w.out.size)⟩
end Go.Proofs.Ytlaljeobdddegaa

namespace Go.Proofs.Ytlaljeobdddegaa
open Go.RowKit Mp
theorem has_next {l:List Nat} {k y:Nat} (x:Nat) (h:l[k]?=some y):(l.take (k+1)).contains x=((l.take k).contains x || decide (y=x)):=by
 rw [take_next _ _ _ h]
 rw [Bool.eq_iff_iff]
 simp
 constructor
 ·rintro (h | h)
  ·exact Or.inl h
  ·exact Or.inr h.symm
 ·rintro (h | h)
  ·exact Or.inl h
  ·exact Or.inr h.symm
set_option maxRecDepth 100000 in
set_option maxHeartbeats 8000000 in
theorem withinD_any (w:World) (a b:Option Addr) (ca cb:Nat) (la lb:List Nat) (ha:NumR w a la) (hb:NumR w b lb) (l1:la.length≤1000) (l2:lb.length≤1000) :
  Calls Try.prog 45 #[.slice a la.length ca,.slice b lb.length cb] w fun e w'=>e = .returned (.bool (wit la lb))∧Bl w w':=by
 have HA:=hidden ha
 have HB:=hidden hb
 obtain ⟨n,En⟩:=exh la.length
 obtain ⟨m,Em⟩:=exh lb.length
 rw [←En.out] at l1
 rw [←Em.out] at l2
 rw [←En.out,←Em.out]
 clear ha hb
 go_enter Try.func45,Try.ntmps45
 go_wp2_with fail
 go_loopw [5,6,7] (fun i' _ _ w'=>∃ i:Nat,i≤n∧i' = .int .i64 (i:Int)∧Hid (wit (la.take i) lb=true)∧Hid (Bl w w')) (fun i' _ _ _=>n - (intOf i').toNat)
 case atStart=>exact ⟨0,Nat.zero_le _,rfl,(by show wit (la.take 0) lb=true;rfl),Below.refl _ _⟩
 case round =>
  obtain ⟨i,hi,rfl,HW,HBW⟩:=hrel
  by_cases hlt:i<n
  ·have hltI:(i:Int)<(n:Int):=by omega
   obtain ⟨x,hx⟩:=getElem_lt (show i<la.length by rw [←En.out];exact hlt)
   obtain ⟨ba,oa,ea,cx0⟩:=HA.out i x hx
   have HCX:Hid (∀ v,Bl w v→v.cell? ⟨ba,oa+i,none⟩=some (.int .i64 (x:Int))):=fun v hv=>(hv.cell (p:=⟨ba,oa+i,none⟩) (cell_lt cx0)).trans cx0
   have HX:=hidden hx
   subst ea
   clear cx0 hx
   go_wp2_with fail
   go_loopw [6,7] (fun b' k' w'=>∃ (k:Nat) (r:Bool),k≤m∧k' = .int .i64 (k:Int)∧b' = .bool r∧Hid (r=(lb.take k).contains x)∧Hid (Bl w w')) (fun _ k' _=>m - (intOf k').toNat)
   case atStart=>exact ⟨0,false,Nat.zero_le _,rfl,rfl,rfl,HBW.out⟩
   case round =>
    obtain ⟨k,r,hk,rfl,rfl,HR,HBK⟩:=hrel
    by_cases hlk:k<m
    ·have hlkI:(k:Int)<(m:Int):=by omega
     obtain ⟨y,hy⟩:=getElem_lt (show k<lb.length by rw [←Em.out];exact hlk)
     obtain ⟨bb,ob,eb,cy0⟩:=HB.out k y hy
     have e2:IntKind.i64.wrap ((k:Int)+1)=(k:Int)+1:=wrapI _ (by omega) (by omega)
     have HNX:=hidden (has_next x hy)
     rw [←HR.out] at HNX
     cases r
     ·have cx:=HCX.out wr HBK.out
      have cy:=(HBK.out.cell (p:=⟨bb,ob+k,none⟩) (cell_lt cy0)).trans cy0
      subst eb
      clear cy0 hy HR
      go_wp2_with fail
      refine wp_region_noPanic ?_
      refine wp_region_held_drew (S:=fun wz=>wz.cell? ⟨bb,ob+k,none⟩=some (.int .i64 (y:Int))∧wz.cell? ⟨ba,oa+i,none⟩=some (.int .i64 (x:Int))) (by kernel_rfl) (by exact ⟨cy,cx⟩) (fun hHeld=>?_)
      refine tk 0 ?_
      refine tk 1 ?_
      refine tk 2 ?_
      refine tk 3 ?_
      refine tk 4 ?_
      refine tk 5 ?_
      refine tk 6 ?_
      refine tk 7 ?_
      refine tk 8 ?_
      refine tk 9 ?_
      refine tk 10 ?_
      refine tk 11 ?_
      refine tk 12 ?_
      refine wpAnyH_done (by kernel_rfl) ?_ _
      refine NoPanic.normal ?_
      have HBN:Hid (Bl w wr.drew):=Below.drew HBK.out
      go_wp2
      go_roundw
      case measure=>simp [intOf];omega
      case rel=>exact ⟨k+1,_,by omega,by simp,rfl,by rw [HNX.out,Bool.false_or];exact decide_eq_decide.2 (by omega),HBN.out⟩
     ·clear cy0 hy HR eb
      go_wp2_with fail
      refine wp_region_noPanic ?_
      refine wp_region_held_drew (S:=fun wz=>True) (by kernel_rfl) (by exact True.intro) (fun hHeld=>?_)
      refine tk 0 ?_
      refine tk 1 ?_
      refine tu 2 ?_
      refine tu 3 ?_
      refine tu 4 ?_
      refine tu 5 ?_
      refine tu 6 ?_
      refine tu 7 ?_
      refine tu 8 ?_
      refine tu 9 ?_
      refine tu 10 ?_
      refine tk 11 ?_
      refine tk 12 ?_
      refine wpAnyH_done (by kernel_rfl) ?_ _
      refine NoPanic.normal ?_
      have HBN:Hid (Bl w wr.drew):=Below.drew HBK.out
      go_wp2
      go_roundw
      case measure=>simp [intOf];omega
      case rel=>exact ⟨k+1,true,by omega,by simp,rfl,by rw [HNX.out,Bool.true_or];exact (rfl:true=true),HBN.out⟩
    ·have hge:¬ (k:Int)<(m:Int):=by omega
     have HRR:Hid (r=lb.contains x):=by
      show r=_
      rw [HR.out,List.take_of_length_le (by have:=Em.out;omega)]
     have e2:IntKind.i64.wrap ((i:Int)+1)=(i:Int)+1:=wrapI _ (by omega) (by omega)
     clear HR
     cases r
     ·have HF:Hid (wit la lb=false):=by
       show la.all _=false
       rw [List.all_eq_false]
       exact ⟨x,List.mem_of_getElem? HX.out,by rw [←HRR.out];simp⟩
      go_wp2
      go_ret
      exact ⟨ret_bool HF.out.symm,HBK.out⟩
     ·have HT:Hid (wit (la.take (i+1)) lb=true):=by
       show (la.take (i+1)).all _=true
       rw [all_next _ _ _ _ HX.out,←HRR.out,Bool.and_true]
       exact HW.out
      go_wp2
      go_roundw
      case measure=>simp [intOf];omega
      case rel=>exact ⟨i+1,by omega,by simp,HT.out,HBK.out⟩
  ·have hge:¬ (i:Int)<(n:Int):=by omega
   have HT:Hid (wit la lb=true):=by
    have:=HW.out
    rw [List.take_of_length_le (by have:=En.out;omega)] at this
    exact this
   go_wp2
   go_ret
   exact ⟨ret_bool HT.out.symm,HBW.out⟩
def dofL (F:Nat) (label:Nat→Nat) (l:Nat):Nat:=if l / 2=0∨F≤l / 2 then label (l / 2) else l % 2
set_option maxRecDepth 100000 in
set_option maxHeartbeats 8000000 in
theorem depthOf_any (w:World) (S:GrS) (G:GrD) (ni n:Nat) (hF:FineG G ni n) (a:Option Addr) (c m:Nat) (label:Nat→Nat) (hl:∀ v,v<m→∃ b o,a=some ⟨b,o,none⟩∧w.cell? ⟨b,o+v,none⟩=some (.int .i64 (label v:Nat))) (l:Nat) (hlm:l / 2<m) (hbig:l≤1000000) :
  Calls Try.prog 28 #[.agg (S.cells G),.slice a m c,.int .i64 (l:Nat)] w fun e w'=>e = .returned (.int .i64 (dofL (firstN G) label l:Nat))∧Bl w w':=by
 obtain ⟨b,o,ea,cx0⟩:=hl (l / 2) hlm
 subst ea
 have hq:(l:Int).tdiv 2=((l / 2:Nat):Int):=by rw [Int.tdiv_eq_ediv_of_nonneg (by omega)];omega
 have hr:(l:Int).tmod 2=((l % 2:Nat):Int):=by rw [Int.tmod_eq_emod_of_nonneg (by omega)];omega
 have hins:=hF.ins
 have hfi:=hF.first
 have hN6:=hF.le
 have hall:=hF.all
 obtain ⟨p,Ep⟩:=exh (l / 2)
 obtain ⟨q,Eq⟩:=exh (l % 2)
 rw [←Ep.out] at hq cx0 hlm
 rw [←Eq.out] at hr
 obtain ⟨nl,Enl⟩:=exh G.lats.length
 have hpI:(p:Int)<(m:Int):=by omega
 have e2:IntKind.i64.wrap ((ni:Int)+(nl:Int))=((ni+nl:Nat):Int):=by rw [wrapI _ (by have:=Enl.out;omega) (by have:=Enl.out;omega)];omega
 have HD:Hid (dofL (firstN G) label l=if p=0∨firstN G≤p then label p else q):=by
  show _=_
  unfold dofL;rw [←Ep.out,←Eq.out]
 have HX:Hid (∀ o',(w.alloc o').cell? ⟨b,o+p,none⟩=some (.int .i64 (label p:Nat))):=fun o'=>by
  rw [World.cell?_alloc_lt _ _ _ (cell_lt cx0)];exact cx0
 have hf2:firstN G=1+(ni+nl):=by have:=Enl.out;omega
 unfold GrS.cells
 rw [hins,←Enl.out]
 obtain ⟨s,Es⟩:=exh (ni+nl)
 rw [←Es.out] at hf2 e2
 obtain ⟨lp,Elp⟩:=exh (label p)
 rw [←Elp.out] at HX
 obtain ⟨gb,Egb⟩:=exh w.heap.size
 have HW:Hid (∀ w0:World,w.alloc (.cells #[.int .i64 (ni:Int),.slice S.a1 nl S.c1,.slice S.a2 G.ands.length S.c2,.slice S.a3 G.outs.length S.c3] 26)=w0→w0.cell? ⟨b,o+p,none⟩=some (.int .i64 (lp:Int))∧w0.cell? ⟨gb,0,none⟩=some (.int .i64 (ni:Int))∧w0.cell? ⟨gb,1,none⟩=some (.slice S.a1 nl S.c1)∧Bl w w0):=fun w0 e=>by
  subst e
  rw [Egb.out]
  exact ⟨HX.out _,(Blk.new w _ _).cell (i:=0) rfl,(Blk.new w _ _).cell (i:=1) rfl,(Below.refl _ _).alloc (Nat.le_refl _) _⟩
 have hp6:p≤1000000:=by have:=Ep.out;omega
 have hq6:q≤1000000:=by have:=Eq.out;omega
 clear hl hins hfi hall hF cx0 HX
 by_cases h0:p=0
 ·have HDD:Hid (dofL (firstN G) label l=lp):=by
   show _=_
   rw [HD.out,if_pos (Or.inl h0),Elp.out]
  subst h0
  clear HD hf2
  go_enter Try.func28,Try.ntmps28
  go_upto_region 1 with fail
  generalize hw0:World.alloc w _=w0
  obtain ⟨x0,x1,x2,hb⟩:=HW.out w0 hw0
  rw [Nat.add_zero] at x0
  rw [←Egb.out]
  clear HW hw0
  go_wp2
  go_ret
  exact ⟨ret_int (by rw [HDD.out]),hb⟩
 ·have h0I:¬ (p:Int)=0:=by omega
  by_cases h1:s<p
  ·have h1I:(s:Int)<(p:Int):=by omega
   have HDD:Hid (dofL (firstN G) label l=lp):=by
    show _=_
    rw [HD.out,if_pos (Or.inr (by omega)),Elp.out]
   clear HD hf2 h0 h1
   go_enter Try.func28,Try.ntmps28
   go_upto_region 1 with fail
   generalize hw0:World.alloc w _=w0
   obtain ⟨x0,x1,x2,hb⟩:=HW.out w0 hw0
   rw [←Egb.out]
   clear HW hw0
   go_wp2
   go_ret
   exact ⟨ret_int (by rw [HDD.out]),hb⟩
  ·have h1I:¬ (s:Int)<(p:Int):=by omega
   have HDD:Hid (dofL (firstN G) label l=q):=by
    show _=_
    rw [HD.out,if_neg (by omega)]
   clear HD hf2 h0 h1
   go_enter Try.func28,Try.ntmps28
   go_upto_region 1 with fail
   generalize hw0:World.alloc w _=w0
   obtain ⟨x0,x1,x2,hb⟩:=HW.out w0 hw0
   rw [←Egb.out]
   clear HW hw0
   go_wp2
   go_ret
   exact ⟨ret_int (by rw [HDD.out]),hb⟩
end Go.Proofs.Ytlaljeobdddegaa
