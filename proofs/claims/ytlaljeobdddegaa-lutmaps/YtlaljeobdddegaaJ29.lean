import Derived.Test.YtlaljeobdddegaaJ28
import Derived.Test.YtlaljeobdddegaaJ27
namespace Go.Proofs.Ytlaljeobdddegaa
namespace Mp
structure Ct where
 lv:List Nat
 dep:Nat
 tb:Nat
def plc (l all:List Nat):List Nat:=l.map fun v=>all.idxOf v
def ctJ (i j:Bool) (a b:Ct):Ct:=⟨joinL a.lv b.lv,max a.dep b.dep,sprT (plc a.lv (joinL a.lv b.lv)) a.tb i &&& sprT (plc b.lv (joinL a.lv b.lv)) b.tb j⟩
def keepT (K:Nat→List (List Nat)) (kept:List Ct) (c:Ct):List Ct:=if kept.any (fun k=>beatsB K k.lv c.lv) then kept else kept.filter (fun k=>!beatsB K c.lv k.lv)++[c]
def pairT (K:Nat→List (List Nat)) (i j:Bool) (kept:List Ct) (a b:Ct):List Ct:=if (joinL a.lv b.lv).length≤4 then keepT K kept (ctJ i j a b) else kept
def rowT (K:Nat→List (List Nat)) (i j:Bool) (kept:List Ct) (a:Ct) (y:List Ct):List Ct:=y.foldl (fun kept b=>pairT K i j kept a b) kept
def cutsT (K:Nat→List (List Nat)) (i j:Bool) (x y:List Ct):List Ct:=x.foldl (fun kept a=>rowT K i j kept a y) []
theorem map_filter' (p:List Nat→Bool) (l:List Ct):(l.filter fun k=>p k.lv).map Ct.lv=(l.map Ct.lv).filter p:=by
 induction l with
 | nil=>rfl
 | cons a t ih =>
  by_cases h:p a.lv=true
  ·simp [h,ih]
  ·simp only [Bool.not_eq_true] at h;simp [h,ih]
theorem keepT_map (K:Nat→List (List Nat)) (kept:List Ct) (c:Ct):(keepT K kept c).map Ct.lv=keepS K (kept.map Ct.lv) c.lv:=by
 unfold keepT keepS
 have e:kept.any (fun k=>beatsB K k.lv c.lv)=(kept.map Ct.lv).any (fun k=>beatsB K k c.lv):=by rw [List.any_map];rfl
 rw [←e]
 split
 ·rfl
 ·rw [List.map_append,map_filter' (fun k=>!beatsB K c.lv k)];rfl
theorem rowT_map (K:Nat→List (List Nat)) (i j:Bool) (a:Ct):∀ (y kept:List Ct),(rowT K i j kept a y).map Ct.lv=(((y.map Ct.lv).map fun b=>joinL a.lv b).filter fun c=>decide (c.length≤4)).foldl (keepS K) (kept.map Ct.lv)
 | [],_=>rfl
 | b :: t,kept=>by
  show (rowT K i j (pairT K i j kept a b) a t).map Ct.lv=_
  rw [rowT_map K i j a t]
  unfold pairT
  by_cases h:(joinL a.lv b.lv).length≤4
  ·rw [if_pos h,keepT_map]
   simp [h,ctJ]
  ·rw [if_neg h]
   simp [h]
theorem cutsT_map' (K:Nat→List (List Nat)) (i j:Bool) (y:List Ct):∀ (x kept:List Ct),(x.foldl (fun kept a=>rowT K i j kept a y) kept).map Ct.lv=(cands (x.map Ct.lv) (y.map Ct.lv)).foldl (keepS K) (kept.map Ct.lv)
 | [],_=>rfl
 | a :: t,kept=>by
  show (t.foldl (fun kept a=>rowT K i j kept a y) (rowT K i j kept a y)).map Ct.lv=_
  rw [cutsT_map' K i j y t,rowT_map]
  unfold cands
  rw [List.map_cons,List.flatMap_cons,List.foldl_append]
theorem cutsT_map (K:Nat→List (List Nat)) (i j:Bool) (x y:List Ct):(cutsT K i j x y).map Ct.lv=keepA K (cands (x.map Ct.lv) (y.map Ct.lv)):=cutsT_map' K i j y x []
theorem pairT_all {P:Ct→Prop} {K:Nat→List (List Nat)} {i j:Bool} {kept:List Ct} {a b:Ct} (hk:∀ c,c ∈ kept→P c) (h:(joinL a.lv b.lv).length≤4→P (ctJ i j a b)):∀ c,c ∈ pairT K i j kept a b→P c:=by
 unfold pairT
 intro c hc
 by_cases hl:(joinL a.lv b.lv).length≤4
 ·rw [if_pos hl] at hc
  unfold keepT at hc
  split at hc
  ·exact hk c hc
  ·rcases List.mem_append.1 hc with hc | hc
   ·exact hk c (List.mem_filter.1 hc).1
   ·rw [List.mem_singleton.1 hc];exact h hl
 ·rw [if_neg hl] at hc
  exact hk c hc
theorem rowT_all {P:Ct→Prop} {K:Nat→List (List Nat)} {i j:Bool} {a:Ct}:∀ (y kept:List Ct),(∀ c,c ∈ kept→P c)→(∀ b,b ∈ y→(joinL a.lv b.lv).length≤4→P (ctJ i j a b))→∀ c,c ∈ rowT K i j kept a y→P c
 | [],_,hk,_=>hk
 | b :: t,kept,hk,h=>rowT_all t (pairT K i j kept a b) (pairT_all hk (h b List.mem_cons_self)) (fun b' hb'=>h b' (List.mem_cons_of_mem _ hb'))
theorem cutsT_all' {P:Ct→Prop} {K:Nat→List (List Nat)} {i j:Bool} {y:List Ct}:∀ (x kept:List Ct),(∀ c,c ∈ kept→P c)→(∀ a,a ∈ x→∀ b,b ∈ y→(joinL a.lv b.lv).length≤4→P (ctJ i j a b))→∀ c,c ∈ x.foldl (fun kept a=>rowT K i j kept a y) kept→P c
 | [],_,hk,_=>hk
 | a :: t,kept,hk,h=>cutsT_all' t (rowT K i j kept a y) (rowT_all y kept hk (h a List.mem_cons_self)) (fun a' ha'=>h a' (List.mem_cons_of_mem _ ha'))
theorem cutsT_all {P:Ct→Prop} {K:Nat→List (List Nat)} {i j:Bool} {x y:List Ct} (h:∀ a,a ∈ x→∀ b,b ∈ y→(joinL a.lv b.lv).length≤4→P (ctJ i j a b)):∀ c,c ∈ cutsT K i j x y→P c:=cutsT_all' x [] (fun c hc=>by cases hc) h
theorem keepT_len (K:Nat→List (List Nat)) (kept:List Ct) (c:Ct):(keepT K kept c).length≤kept.length+1:=by
 unfold keepT
 split
 ·omega
 ·rw [List.length_append]
  have:=List.length_filter_le (fun k=>!beatsB K c.lv k.lv) kept
  simp;omega
theorem pairT_len (K:Nat→List (List Nat)) (i j:Bool) (kept:List Ct) (a b:Ct):(pairT K i j kept a b).length≤kept.length+1:=by
 unfold pairT
 split
 ·exact keepT_len _ _ _
 ·omega
theorem rowT_len (K:Nat→List (List Nat)) (i j:Bool) (a:Ct):∀ (y kept:List Ct),(rowT K i j kept a y).length≤kept.length+y.length
 | [],_=>by unfold rowT;simp
 | b :: t,kept=>by
  have h1:=rowT_len K i j a t (pairT K i j kept a b)
  have h2:=pairT_len K i j kept a b
  show (rowT K i j (pairT K i j kept a b) a t).length≤_
  rw [List.length_cons];omega
theorem cutsT_len (K:Nat→List (List Nat)) (i j:Bool) (y:List Ct):∀ (x kept:List Ct),(x.foldl (fun kept a=>rowT K i j kept a y) kept).length≤kept.length+x.length*y.length
 | [],_=>by simp
 | a :: t,kept=>by
  have h1:=cutsT_len K i j y t (rowT K i j kept a y)
  have h2:=rowT_len K i j a y kept
  show (t.foldl (fun kept a=>rowT K i j kept a y) (rowT K i j kept a y)).length≤_
  rw [List.length_cons,Nat.add_mul];omega
structure ValG (G:Gr) (ia ib:Nat→Bool) (N:Nat) (val:Nat→Bool):Prop where
 zero:val 0=false
 gate:∀ v,v<N→G.first≤v→val v=((val (G.a v) != ia v) && (val (G.b v) != ib v))
structure TOk (P:(Nat→Bool)→Prop) (v:Nat) (c:Ct):Prop where
 val:∀ val,P val→c.tb.testBit (spl (c.lv.map val))=val v
 idle:∀ i,c.lv.length≤i→i<4→Idle c.tb i
 lt:c.tb<65536
theorem idx_get {v:Nat}:∀ {l:List Nat},v ∈ l→l[l.idxOf v]?=some v
 | a :: t,h=>by
  rw [List.idxOf_cons]
  by_cases e:a=v
  ·simp [e]
  ·have hb:(a == v)=false:=beq_eq_false_iff_ne.2 e
   rw [hb]
   simp only [cond_false]
   rcases List.mem_cons.1 h with rfl | h
   ·exact absurd rfl e
   ·rw [List.getElem?_cons_succ];exact idx_get h
theorem plc_get {l all:List Nat} (h:∀ x,x ∈ l→x ∈ all):(plc l all).map (fun p=>all[p]?)=l.map some:=by
 unfold plc
 rw [List.map_map]
 exact List.map_congr_left (fun x hx=>idx_get (h x hx))
theorem plc_lt {l all:List Nat} (h:∀ x,x ∈ l→x ∈ all):∀ p,p ∈ plc l all→p<all.length:=by
 intro p hp
 obtain ⟨x,hx,rfl⟩:=List.mem_map.1 hp
 exact List.idxOf_lt_length_of_mem (h x hx)
theorem flip_lt {k i:Nat} (hk:k<16) (hi:i<4):k ^^^ 2 ^ i<16:=by
 have:2 ^ i<2 ^ 4:=Nat.pow_lt_pow_right (by omega) hi
 exact Nat.xor_lt_two_pow (n:=4) hk this
theorem sprT_idle {ps:List Nat} {i:Nat} (hi:i<4) (h:∀ p,p ∈ ps→p≠i) (tb:Nat) (inv:Bool):Idle (sprT ps tb inv) i:=by
 intro k hk
 unfold sprT
 rw [mkB_bit,mkB_bit]
 have e:spAt ps (k ^^^ 2 ^ i)=spAt ps k:=by
  unfold spAt
  congr 1
  refine List.map_congr_left (fun p hp=>?_)
  rw [Nat.testBit_xor,Nat.testBit_two_pow]
  have:¬ i=p:=fun e=>h p hp e.symm
  simp [this]
 rw [e]
 simp [hk,flip_lt hk hi]
theorem idle_and {a b i:Nat} (ha:Idle a i) (hb:Idle b i):Idle (a &&& b) i:=fun k hk=>by
 rw [Nat.testBit_and,Nat.testBit_and,ha k hk,hb k hk]
theorem TOk.join {P:(Nat→Bool)→Prop} {p q v:Nat} {i j:Bool} {a b:Ct} (ha:TOk P p a) (hb:TOk P q b) (hl:(joinL a.lv b.lv).length≤4) (hv:∀ val,P val→val v=((val p != i) && (val q != j))):TOk P v (ctJ i j a b):=by
 have sa:∀ x,x ∈ a.lv→x ∈ joinL a.lv b.lv:=fun x hx=>(joinL_mem _ _ _).2 (Or.inl hx)
 have sb:∀ x,x ∈ b.lv→x ∈ joinL a.lv b.lv:=fun x hx=>(joinL_mem _ _ _).2 (Or.inr hx)
 refine ⟨fun val hP=>?_,fun k hk h4=>?_,?_⟩
 ·show (sprT _ _ _ &&& sprT _ _ _).testBit (spl ((joinL a.lv b.lv).map val))=_
  rw [Nat.testBit_and,sprT_val hl (plc_get sa),sprT_val hl (plc_get sb),ha.val val hP,hb.val val hP,hv val hP]
 ·have hk:(joinL a.lv b.lv).length≤k:=hk
  exact idle_and (sprT_idle h4 (fun p hp e=>by have:=plc_lt sa p hp;omega) _ _) (sprT_idle h4 (fun p hp e=>by have:=plc_lt sb p hp;omega) _ _)
 ·exact Nat.lt_of_le_of_lt Nat.and_le_left (mkB_lt 16 _)
theorem TOk.self (P:(Nat→Bool)→Prop) (v d:Nat):TOk P v ⟨[v],d,43690⟩:=by
 refine ⟨fun val _=>?_,fun i hi h4=>?_,by show (43690:Nat)<65536;omega⟩
 ·show (43690:Nat).testBit (spl [val v])=val v
  cases val v <;> decide
 ·have hi:1≤i:=hi
  have:i=1∨i=2∨i=3:=by omega
  show Idle 43690 i
  rcases this with rfl | rfl | rfl <;> (unfold Idle;decide)
theorem TOk.zero {P:(Nat→Bool)→Prop} (h:∀ val,P val→val 0=false):TOk P 0 ⟨[],0,0⟩ :=
 ⟨fun val hP=>by rw [h val hP];exact Nat.zero_testBit _,fun i _ _ k _=>by show (0:Nat).testBit k=(0:Nat).testBit _;rw [Nat.zero_testBit,Nat.zero_testBit],by show (0:Nat)<65536;omega⟩
theorem mxC_iff (dp:Nat→Nat) (c:List Nat) (m:Nat):mxC dp c≤m↔∀ u,u ∈ c→dp u≤m:=by
 refine ⟨fun h u hu=>Nat.le_trans (mxC_le dp c u hu) h,fun h=>?_⟩
 have:∀ (c:List Nat) (d:Nat),d≤m→(∀ u,u ∈ c→dp u≤m)→c.foldl (fun d u=>max d (dp u)) d≤m:=by
  intro c
  induction c with
  | nil=>intro d hd _;exact hd
  | cons a r ih=>intro d hd hc;exact ih _ (Nat.max_le.2 ⟨hd,hc a List.mem_cons_self⟩) (fun u hu=>hc u (List.mem_cons_of_mem _ hu))
 exact this c 0 (Nat.zero_le _) h
theorem mxC_join (dp:Nat→Nat) (a b:List Nat):mxC dp (joinL a b)=max (mxC dp a) (mxC dp b):=by
 refine Nat.le_antisymm ((mxC_iff _ _ _).2 (fun u hu=>?_)) (Nat.max_le.2 ⟨(mxC_iff _ _ _).2 (fun u hu=>mxC_le dp _ u ((joinL_mem _ _ _).2 (Or.inl hu))),(mxC_iff _ _ _).2 (fun u hu=>mxC_le dp _ u ((joinL_mem _ _ _).2 (Or.inr hu)))⟩)
 rcases (joinL_mem _ _ _).1 hu with h | h
 ·exact Nat.le_trans (mxC_le dp a u h) (Nat.le_max_left _ _)
 ·exact Nat.le_trans (mxC_le dp b u h) (Nat.le_max_right _ _)
theorem mxC_congr {d d':Nat→Nat} {c:List Nat} (h:∀ u,u ∈ c→d u=d' u):mxC d c=mxC d' c :=
 Nat.le_antisymm ((mxC_iff _ _ _).2 (fun u hu=>by rw [h u hu];exact mxC_le d' c u hu)) ((mxC_iff _ _ _).2 (fun u hu=>by rw [←h u hu];exact mxC_le d c u hu))
def minF (l:List Ct) (d:Nat):Nat:=l.foldl (fun d k=>min d k.dep) d
theorem minF_spec:∀ (l:List Ct) (d:Nat),(minF l d≤d∧∀ c,c ∈ l→minF l d≤c.dep)∧(minF l d=d∨∃ c,c ∈ l∧minF l d=c.dep)
 | [],d=>⟨⟨Nat.le_refl _,fun c hc=>by cases hc⟩,Or.inl rfl⟩
 | a :: t,d=>by
  obtain ⟨⟨h1,h2⟩,h3⟩:=minF_spec t (min d a.dep)
  have e:minF (a :: t) d=minF t (min d a.dep):=rfl
  rw [e]
  refine ⟨⟨Nat.le_trans h1 (Nat.min_le_left _ _),fun c hc=>?_⟩,?_⟩
  ·rcases List.mem_cons.1 hc with rfl | hc
   ·exact Nat.le_trans h1 (Nat.min_le_right _ _)
   ·exact h2 c hc
  ·rcases h3 with h3 | ⟨c,hc,h3⟩
   ·rw [h3]
    by_cases hd:d≤a.dep
    ·left;omega
    ·right;exact ⟨a,List.mem_cons_self,by omega⟩
   ·exact Or.inr ⟨c,List.mem_cons_of_mem _ hc,h3⟩
def minD:List Ct→Nat
 | []=>0
 | c :: t=>minF (c :: t) c.dep
theorem minD_spec {l:List Ct} (h:l≠[]):(∀ c,c ∈ l→minD l≤c.dep)∧∃ c,c ∈ l∧minD l=c.dep:=by
 cases l with
 | nil=>exact absurd rfl h
 | cons a t =>
  obtain ⟨⟨h1,h2⟩,h3⟩:=minF_spec (a :: t) a.dep
  refine ⟨h2,?_⟩
  rcases h3 with h3 | h3
  ·exact ⟨a,List.mem_cons_self,h3⟩
  ·exact h3
def KOf (Cs:List (List Ct)) (v:Nat):List (List Nat):=(Cs.getD v []).map Ct.lv
def dOf (ds:List Nat) (v:Nat):Nat:=ds.getD v 0
def srcT (v:Nat):List Ct:=if v=0 then [⟨[],0,0⟩] else [⟨[v],0,43690⟩]
def startF (first:Nat):List (List Ct) × List Nat:=((List.range first).map srcT,List.replicate first 0)
def newT (G:Gr) (ia ib:Nat→Bool) (Cs:List (List Ct)):List Ct:=cutsT (KOf Cs) (ia Cs.length) (ib Cs.length) (Cs.getD (G.a Cs.length) []) (Cs.getD (G.b Cs.length) [])
def stepF (G:Gr) (ia ib:Nat→Bool) (s:List (List Ct) × List Nat):List (List Ct) × List Nat:=(s.1++[⟨[s.1.length],1+minD (newT G ia ib s.1),43690⟩ :: newT G ia ib s.1],s.2++[1+minD (newT G ia ib s.1)])
def foundN (G:Gr) (ia ib:Nat→Bool):Nat→List (List Ct) × List Nat
 | 0=>startF G.first
 | n+1=>stepF G ia ib (foundN G ia ib n)
structure FOk (G:Gr) (ia ib:Nat→Bool) (N n:Nat) (s:List (List Ct) × List Nat):Prop where
 l1:s.1.length=G.first+n
 l2:s.2.length=G.first+n
 cp:CutsP G (G.first+n) (KOf s.1) (dOf s.2)
 ok:∀ v,v<G.first+n→∀ c,c ∈ s.1.getD v []→TOk (ValG G ia ib N) v c∧c.dep=mxC (dOf s.2) c.lv
theorem toldB_congr {K K':Nat→List (List Nat)} {v:Nat} (h:K v=K' v) (c:List Nat):toldB K v c=toldB K' v c:=by unfold toldB;rw [h]
theorem beatsB_congr {K K':Nat→List (List Nat)} {n:Nat} (h:∀ v,v<n→K v=K' v) {one other:List Nat} (ho:∀ u,u ∈ other→u<n):beatsB K one other=beatsB K' one other:=by
 unfold beatsB
 congr 1
 rw [Bool.eq_iff_iff,List.all_eq_true,List.all_eq_true]
 exact ⟨fun hh u hu=>by rw [←toldB_congr (h u (ho u hu))];exact hh u hu,fun hh u hu=>by rw [toldB_congr (h u (ho u hu))];exact hh u hu⟩
theorem any_congr' {α:Type} {p q:α→Bool} {l:List α} (h:∀ x,x ∈ l→p x=q x):l.any p=l.any q:=by
 induction l with
 | nil=>rfl
 | cons a t ih=>rw [List.any_cons,List.any_cons,h a List.mem_cons_self,ih (fun x hx=>h x (List.mem_cons_of_mem _ hx))]
theorem keepS_congr {K K':Nat→List (List Nat)} {n:Nat} (h:∀ v,v<n→K v=K' v) {kept:List (List Nat)} {c:List Nat} (hk:∀ k,k ∈ kept→∀ u,u ∈ k→u<n) (hc:∀ u,u ∈ c→u<n):keepS K kept c=keepS K' kept c:=by
 unfold keepS
 rw [any_congr' (fun k hk'=>beatsB_congr h (one:=k) hc),List.filter_congr (fun k hk'=>by rw [beatsB_congr h (one:=c) (hk k hk')])]
theorem keepA_congr {K K':Nat→List (List Nat)} {n:Nat} (h:∀ v,v<n→K v=K' v):∀ (cs kept:List (List Nat)),(∀ c,c ∈ cs→∀ u,u ∈ c→u<n)→(∀ k,k ∈ kept→∀ u,u ∈ k→u<n)→cs.foldl (keepS K) kept=cs.foldl (keepS K') kept
 | [],_,_,_=>rfl
 | c :: t,kept,hc,hk=>by
  rw [List.foldl_cons,List.foldl_cons,keepS_congr h hk (hc c List.mem_cons_self)]
  refine keepA_congr h t _ (fun x hx=>hc x (List.mem_cons_of_mem _ hx)) (fun k hk'=>?_)
  rcases keepS_mem hk' with h1 | rfl
  ·exact hk k h1
  ·exact hc _ List.mem_cons_self
theorem getD_app {α:Type} (l m:List α) (d:α) {v:Nat} (h:v<l.length):(l++m).getD v d=l.getD v d:=by
 rw [List.getD_eq_getElem?_getD,List.getD_eq_getElem?_getD,List.getElem?_append_left h]
theorem getD_snoc {α:Type} (l:List α) (x d:α):(l++[x]).getD l.length d=x:=by
 rw [List.getD_eq_getElem?_getD,List.getElem?_append_right (Nat.le_refl _)];simp
theorem start_ok (G:Gr) (ia ib:Nat→Bool) (N:Nat):FOk G ia ib N 0 (startF G.first):=by
 have hg:∀ v,v<G.first→(startF G.first).1.getD v []=srcT v:=fun v hv=>by
  unfold startF
  rw [List.getD_eq_getElem?_getD,List.getElem?_map,List.getElem?_range hv];rfl
 have hd:∀ v,dOf (startF G.first).2 v=0:=fun v=>by
  unfold dOf startF
  rw [List.getD_eq_getElem?_getD]
  by_cases h:v<G.first
  ·rw [List.getElem?_replicate_of_lt h];rfl
  ·rw [List.getElem?_eq_none (by simp;omega)];rfl
 refine ⟨by simp [startF],by simp [startF],⟨?_,fun v h0 hv=>?_,fun v hv h=>by omega,fun v _=>hd v,fun v hv h=>by omega,fun v hv h=>by omega⟩,fun v hv c hc=>?_⟩
 ·unfold KOf;rw [hg 0 G.pos];rfl
 ·unfold KOf;rw [hg v hv];unfold srcT;rw [if_neg (by omega)];rfl
 ·rw [hg v hv] at hc
  unfold srcT at hc
  split at hc
  ·rename_i h0
   rw [List.mem_singleton.1 hc,h0]
   exact ⟨TOk.zero (fun val h=>h.zero),rfl⟩
  ·rw [List.mem_singleton.1 hc]
   refine ⟨TOk.self _ _ _,?_⟩
   show 0=max 0 (dOf _ v)
   rw [hd];rfl
theorem newT_spec {G:Gr} {ia ib:Nat→Bool} {N n:Nat} {s:List (List Ct) × List Nat} (h:FOk G ia ib N n s) (hN:G.first+n<N):(newT G ia ib s.1).map Ct.lv=keepA (KOf s.1) (cands (KOf s.1 (G.a (G.first+n))) (KOf s.1 (G.b (G.first+n))))∧newT G ia ib s.1≠[]∧∀ c,c ∈ newT G ia ib s.1→TOk (ValG G ia ib N) (G.first+n) c∧c.dep=mxC (dOf s.2) c.lv∧Ris c.lv∧c.lv.length≤4∧(∀ u,u ∈ c.lv→u<G.first+n):=by
 have hg:G.first≤G.first+n:=by omega
 have hla:=G.la _ hg
 have hlb:=G.lb _ hg
 have hm:(newT G ia ib s.1).map Ct.lv=keepA (KOf s.1) (cands (KOf s.1 (G.a (G.first+n))) (KOf s.1 (G.b (G.first+n)))):=by
  unfold newT;rw [h.l1,cutsT_map];rfl
 have sa:=(h.cp.sound _ hla).1
 have sb:=(h.cp.sound _ hlb).1
 refine ⟨hm,fun e=>?_,?_⟩
 ·have hex:∀ p,p<G.first+n→∃ x,x ∈ KOf s.1 p∧x.length≤1:=fun p hp=>by
   by_cases h0:p=0
   ·subst h0;rw [h.cp.zero];exact ⟨[],List.mem_singleton.2 rfl,by simp⟩
   ·exact ⟨[p],(h.cp.sound p hp).2.1 (by omega),by simp⟩
  obtain ⟨x,hx,hx1⟩:=hex _ hla
  obtain ⟨y,hy,hy1⟩:=hex _ hlb
  have hj:=nd_len (joinL_ris (sa x hx).1 (sb y hy).1).nodup (D:=x++y) (fun z hz=>List.mem_append.2 ((joinL_mem _ _ _).1 hz))
  rw [List.length_append] at hj
  have hc:joinL x y ∈ cands (KOf s.1 (G.a (G.first+n))) (KOf s.1 (G.b (G.first+n))):=cands_mem.2 ⟨x,y,hx,hy,rfl,by omega⟩
  obtain ⟨k,hk,_⟩:=keepA_dom (G:=G) (K:=KOf s.1) (n:=G.first+n) (fun u hu c hc=>((h.cp.sound u hu).1 c hc).2.2.1) _ [] (fun c hc u hu=>by
   obtain ⟨a,b,ha,hb,rfl,_⟩:=cands_mem.1 hc
   rcases (joinL_mem _ _ _).1 hu with hu | hu
   ·have:=(sa a ha).2.2.2 u hu;omega
   ·have:=(sb b hb).2.2.2 u hu;omega) (fun k hk=>by cases hk) _ (Or.inr hc)
  have hk':k ∈ (newT G ia ib s.1).map Ct.lv:=by rw [hm];exact hk
  rw [e] at hk'
  cases hk'
 ·unfold newT
  rw [h.l1]
  refine cutsT_all (fun a ha b hb hl=>?_)
  have ka:a.lv ∈ KOf s.1 (G.a (G.first+n)):=List.mem_map.2 ⟨a,ha,rfl⟩
  have kb:b.lv ∈ KOf s.1 (G.b (G.first+n)):=List.mem_map.2 ⟨b,hb,rfl⟩
  obtain ⟨ta,da⟩:=h.ok _ hla a ha
  obtain ⟨tb,db⟩:=h.ok _ hlb b hb
  obtain ⟨a1,a2,a3,a4⟩:=sa _ ka
  obtain ⟨b1,b2,b3,b4⟩:=sb _ kb
  refine ⟨ta.join tb hl (fun val hv=>hv.gate _ hN hg),?_,joinL_ris a1 b1,hl,fun u hu=>?_⟩
  ·show max a.dep b.dep=mxC _ (joinL a.lv b.lv)
   rw [mxC_join,da,db]
  ·have hu:u ∈ joinL a.lv b.lv:=hu
   rcases (joinL_mem _ _ _).1 hu with hu | hu
   ·have:=a4 u hu;omega
   ·have:=b4 u hu;omega
theorem step_ok {G:Gr} {ia ib:Nat→Bool} {N n:Nat} {s:List (List Ct) × List Nat} (h:FOk G ia ib N n s) (hN:G.first+n<N):FOk G ia ib N (n+1) (stepF G ia ib s):=by
 obtain ⟨hm,hne,hall⟩:=newT_spec h hN
 obtain ⟨hmin,hmex⟩:=minD_spec hne
 have hg:G.first≤G.first+n:=by omega
 have hla:=G.la _ hg
 have hlb:=G.lb _ hg
 have kOld:∀ v,v<G.first+n→KOf (stepF G ia ib s).1 v=KOf s.1 v:=fun v hv=>by unfold KOf stepF;rw [getD_app _ _ _ (by rw [h.l1];exact hv)]
 have dOld:∀ v,v<G.first+n→dOf (stepF G ia ib s).2 v=dOf s.2 v:=fun v hv=>by unfold dOf stepF;rw [getD_app _ _ _ (by rw [h.l2];exact hv)]
 have cNew:(stepF G ia ib s).1.getD (G.first+n) []=⟨[G.first+n],1+minD (newT G ia ib s.1),43690⟩ :: newT G ia ib s.1:=by
  unfold stepF
  have:=getD_snoc s.1 (⟨[s.1.length],1+minD (newT G ia ib s.1),43690⟩ :: newT G ia ib s.1) []
  rw [h.l1] at this
  rw [h.l1]
  exact this
 have dNew:dOf (stepF G ia ib s).2 (G.first+n)=1+minD (newT G ia ib s.1):=by
  unfold dOf stepF
  have:=getD_snoc s.2 (1+minD (newT G ia ib s.1)) 0
  rw [h.l2] at this
  exact this
 have hcl:∀ c,c ∈ cands (KOf s.1 (G.a (G.first+n))) (KOf s.1 (G.b (G.first+n)))→∀ u,u ∈ c→u<G.first+n:=fun c hc u hu=>by
  obtain ⟨a,b,ha,hb,rfl,_⟩:=cands_mem.1 hc
  rcases (joinL_mem _ _ _).1 hu with hu | hu
  ·have:=((h.cp.sound _ hla).1 a ha).2.2.2 u hu;omega
  ·have:=((h.cp.sound _ hlb).1 b hb).2.2.2 u hu;omega
 have kA:∀ v,v<G.first+n+1→G.first≤v→keepA (KOf (stepF G ia ib s).1) (cands (KOf (stepF G ia ib s).1 (G.a v)) (KOf (stepF G ia ib s).1 (G.b v)))=keepA (KOf s.1) (cands (KOf s.1 (G.a v)) (KOf s.1 (G.b v))):=fun v hv hgv=>by
  have h1:=G.la v hgv
  have h2:=G.lb v hgv
  rw [kOld _ (by omega),kOld _ (by omega)]
  refine keepA_congr (n:=G.first+n) kOld _ [] (fun c hc u hu=>?_) (fun k hk=>by cases hk)
  obtain ⟨a,b,ha,hb,rfl,_⟩:=cands_mem.1 hc
  rcases (joinL_mem _ _ _).1 hu with hu | hu
  ·have:=((h.cp.sound (G.a v) (by omega)).1 a ha).2.2.2 u hu;omega
  ·have:=((h.cp.sound (G.b v) (by omega)).1 b hb).2.2.2 u hu;omega
 have mOld:∀ c:List Nat,(∀ u,u ∈ c→u<G.first+n)→mxC (dOf (stepF G ia ib s).2) c=mxC (dOf s.2) c:=fun c hc=>mxC_congr (fun u hu=>dOld u (hc u hu))
 have kin:∀ v,v<G.first+n→G.first≤v→∀ k,k ∈ keepA (KOf s.1) (cands (KOf s.1 (G.a v)) (KOf s.1 (G.b v)))→∀ u,u ∈ k→u<G.first+n:=fun v hv hgv k hk u hu=>by
  have:=((h.cp.sound v hv).2.2 k hgv hk).2.2 u hu;omega
 refine ⟨by unfold stepF;simp [h.l1];omega,by unfold stepF;simp [h.l2];omega,⟨?_,fun v h0 hv=>?_,fun v hv hgv=>?_,fun v hv=>?_,fun v hv hgv k hk=>?_,fun v hv hgv=>?_⟩,fun v hv c hc=>?_⟩
 ·rw [kOld 0 (by have:=G.pos;omega)];exact h.cp.zero
 ·rw [kOld v (by omega)];exact h.cp.src v h0 hv
 ·rw [kA v (by omega) hgv]
  by_cases e:v=G.first+n
  ·subst e
   unfold KOf at *
   rw [cNew,List.map_cons,hm]
  ·rw [kOld v (by omega)];exact h.cp.gate v (by omega) hgv
 ·rw [dOld v (by omega)];exact h.cp.d0 v hv
 ·rw [kA v (by omega) hgv] at hk
  by_cases e:v=G.first+n
  ·subst e
   rw [dNew]
   rw [←hm] at hk
   obtain ⟨c,hc,rfl⟩:=List.mem_map.1 hk
   have h1:=hmin c hc
   have h2:=(hall c hc).2.1
   rw [mOld _ (hall c hc).2.2.2.2]
   omega
  ·rw [dOld v (by omega),mOld _ (kin v (by omega) hgv k hk)]
   exact h.cp.dle v (by omega) hgv k hk
 ·rw [kA v (by omega) hgv]
  by_cases e:v=G.first+n
  ·subst e
   obtain ⟨c,hc,hce⟩:=hmex
   refine ⟨c.lv,by rw [←hm];exact List.mem_map.2 ⟨c,hc,rfl⟩,?_⟩
   rw [dNew,mOld _ (hall c hc).2.2.2.2,hce,(hall c hc).2.1]
  ·obtain ⟨k,hk,hke⟩:=h.cp.dex v (by omega) hgv
   exact ⟨k,hk,by rw [dOld v (by omega),mOld _ (kin v (by omega) hgv k hk)];exact hke⟩
 ·by_cases e:v=G.first+n
  ·subst e
   rw [cNew] at hc
   rcases List.mem_cons.1 hc with rfl | hc
   ·refine ⟨TOk.self _ _ _,?_⟩
    show 1+minD _=max 0 (dOf _ (G.first+n))
    rw [dNew];omega
   ·obtain ⟨h1,h2,_,_,h5⟩:=hall c hc
    exact ⟨h1,by rw [mOld _ h5];exact h2⟩
  ·have hc':c ∈ s.1.getD v []:=by
    unfold stepF at hc
    rw [getD_app _ _ _ (by rw [h.l1];omega)] at hc
    exact hc
   obtain ⟨h1,h2⟩:=h.ok v (by omega) c hc'
   refine ⟨h1,?_⟩
   rw [mOld _ (fun u hu=>?_)]
   ·exact h2
   ·have:=((h.cp.sound v (by omega)).1 c.lv (List.mem_map.2 ⟨c,hc',rfl⟩)).2.2.2 u hu;omega
theorem found_ok (G:Gr) (ia ib:Nat→Bool) (N:Nat):∀ n,G.first+n≤N→FOk G ia ib N n (foundN G ia ib n)
 | 0,_=>start_ok G ia ib N
 | n+1,h=>step_ok (found_ok G ia ib N n (by omega)) (by omega)
theorem FOk.few {G:Gr} {ia ib:Nat→Bool} {N n:Nat} {s:List (List Ct) × List Nat} (h:FOk G ia ib N n s) {v:Nat} (hv:v<G.first+n):(s.1.getD v []).length≤257:=by
 have e:(s.1.getD v []).length=(KOf s.1 v).length:=by unfold KOf;rw [List.length_map]
 rw [e]
 by_cases h0:v=0
 ·rw [h0,h.cp.zero];simp
 ·by_cases hg:v<G.first
  ·rw [h.cp.src v (by omega) hg];simp
  ·rw [h.cp.gate v hv (by omega),List.length_cons]
   have:=h.cp.few v hv (by omega)
   omega
end Mp
end Go.Proofs.Ytlaljeobdddegaa

namespace Go.Proofs.Ytlaljeobdddegaa
open Go.RowKit Mp
def mkM (l:List Nat):Nat:=mkB 64 fun j=>l.any fun v=>v % 64 == j
def lvN (c:Ct) (j:Nat):Nat:=c.lv.getD j 0
def ctC (c:Ct):List Value:=[.int .i64 (lvN c 0:Nat),.int .i64 (lvN c 1:Nat),.int .i64 (lvN c 2:Nat),.int .i64 (lvN c 3:Nat),.int .i64 (c.lv.length:Nat),.int .u64 (mkM c.lv:Nat),.int .i64 (c.dep:Nat),.int .u16 (c.tb:Nat)]
structure CtAt (w:World) (b o:Nat) (c:Ct):Prop where
 lt:b<w.heap.size
 c0:w.cell? ⟨b,o,none⟩=some (.int .i64 (lvN c 0:Nat))
 c1:w.cell? ⟨b,o+1,none⟩=some (.int .i64 (lvN c 1:Nat))
 c2:w.cell? ⟨b,o+2,none⟩=some (.int .i64 (lvN c 2:Nat))
 c3:w.cell? ⟨b,o+3,none⟩=some (.int .i64 (lvN c 3:Nat))
 c4:w.cell? ⟨b,o+4,none⟩=some (.int .i64 (c.lv.length:Nat))
 c5:w.cell? ⟨b,o+5,none⟩=some (.int .u64 (mkM c.lv:Nat))
 c6:w.cell? ⟨b,o+6,none⟩=some (.int .i64 (c.dep:Nat))
 c7:w.cell? ⟨b,o+7,none⟩=some (.int .u16 (c.tb:Nat))
theorem CtAt.to {B:Nat} {w w':World} {b o:Nat} {c:Ct} (h:CtAt w b o c) (hb:b<B) (hw:Below B w w'):CtAt w' b o c :=
 ⟨Nat.lt_of_lt_of_le h.lt hw.size,(hw.cell (p:=⟨b,o,none⟩) hb).trans h.c0,(hw.cell (p:=⟨b,o+1,none⟩) hb).trans h.c1,(hw.cell (p:=⟨b,o+2,none⟩) hb).trans h.c2,(hw.cell (p:=⟨b,o+3,none⟩) hb).trans h.c3,(hw.cell (p:=⟨b,o+4,none⟩) hb).trans h.c4,(hw.cell (p:=⟨b,o+5,none⟩) hb).trans h.c5,(hw.cell (p:=⟨b,o+6,none⟩) hb).trans h.c6,(hw.cell (p:=⟨b,o+7,none⟩) hb).trans h.c7⟩
theorem CtAt.leaf {w:World} {b o:Nat} {c:Ct} (h:CtAt w b o c) (h4:c.lv.length≤4) {k x:Nat} (hx:c.lv[k]?=some x):w.cell? ⟨b,o+k,none⟩=some (.int .i64 (x:Nat)):=by
 have hk:=(List.getElem?_eq_some_iff.1 hx).1
 have hk4:k=0∨k=1∨k=2∨k=3:=by omega
 have e:lvN c k=x:=by unfold lvN;rw [List.getD_eq_getElem?_getD,hx];rfl
 rcases hk4 with rfl | rfl | rfl | rfl
 ·rw [←e];exact h.c0
 ·rw [←e];exact h.c1
 ·rw [←e];exact h.c2
 ·rw [←e];exact h.c3
theorem CtAt.row {w:World} {b o:Nat} {c:Ct} (h:CtAt w b o c) (h4:c.lv.length≤4):∀ k y,c.lv[k]?=some y→∃ b' o',(some ⟨b,o,none⟩:Option Addr)=some ⟨b',o',none⟩∧w.cell? ⟨b',o'+k,none⟩=some (.int .i64 (y:Nat)):=fun _ _ hy=>⟨b,o,rfl,h.leaf h4 hy⟩
theorem CtAt.of {w:World} {b o:Nat} {c:Ct} (hb:b<w.heap.size) (h:∀ (j:Nat) (v:Value),(ctC c)[j]?=some v→w.cell? ⟨b,o+j,none⟩=some v):CtAt w b o c :=
 ⟨hb,h 0 _ rfl,h 1 _ rfl,h 2 _ rfl,h 3 _ rfl,h 4 _ rfl,h 5 _ rfl,h 6 _ rfl,h 7 _ rfl⟩
theorem arr4:Try.prog.underlying 110=some (.array (Try.prog.arrayLen 110) (Try.prog.elem 110)):=by kernel_rfl
theorem arr4l:Try.prog.arrayLen 110=4:=by kernel_rfl
theorem arr4s (wx:World):(sizeOf (Try.prog.elem 110)).run Try.prog wx = .ok 1 wx:=by kernel_rfl
theorem leaves_sl (wx:World) (b o n:Nat) (h4:n≤4):(Instr.sliceAt 110 (.pointer (some ⟨b,o,none⟩)) none (some (.int .i64 (n:Int))) (some (.int .i64 (n:Int)))).run Try.prog wx = .ok (.slice (some ⟨b,o,none⟩) n n) wx:=by
 rw [run_sliceAt_array_hm wx _ _ arr4 .i64 .i64 n n (by omega) (Int.le_refl _) (by rw [arr4l];omega),arr4s]
 show Result.ok (slicedAt _ 0 n n 1) wx=_
 unfold slicedAt
 have:(if n=0 then (⟨b,o,none⟩:Addr) else (⟨b,o,none⟩:Addr).add (0*1))=⟨b,o,none⟩:=by
  split
  ·rfl
  ·unfold Addr.add;split <;> simp_all
 rw [this];rfl
set_option maxRecDepth 100000 in
set_option maxHeartbeats 8000000 in
theorem list_any (w:World) (b o:Nat) (c:Ct) (h:CtAt w b o c) (h4:c.lv.length≤4) :
  Calls Try.prog 75 #[.pointer (some ⟨b,o,none⟩)] w fun e w'=>e = .returned (.slice (some ⟨b,o,none⟩) c.lv.length c.lv.length)∧w'=w.drewN 1:=by
 have q4:=h.c4
 obtain ⟨n,En⟩:=exh c.lv.length
 rw [←En.out] at q4 h4
 rw [←En.out]
 have h0:(0:Int)≤(n:Int):=by omega
 have h4I:(n:Int)≤4:=by omega
 have RS:∀ wx:World,(Instr.sliceAt 110 (.pointer (some ⟨b,o,none⟩)) none (some (.int .i64 (n:Int))) (some (.int .i64 (n:Int)))).run Try.prog wx = .ok (.slice (some ⟨b,o,none⟩) n n) wx:=fun wx=>leaves_sl wx b o n h4
 clear h
 go_enter Try.func75,Try.ntmps75
 go_wp2_with fail
 refine wp_region_noPanic ?_
 refine wp_region_held_drew (S:=fun v=>v.cell? ⟨b,o+4,none⟩=some (.int .i64 (n:Int))) (by kernel_rfl) (by exact q4) (fun hHeld=>?_)
 refine tk 0 ?_
 refine tk 1 ?_
 refine tk 2 ?_
 refine tk 3 ?_
 refine tk 4 ?_
 refine tk 5 ?_
 refine tk 6 ?_
 refine tk 7 ?_
 refine tk 8 ?_
 refine tk 9 ?_
 refine tk 10 ?_
 refine tk 11 ?_
 refine tk 12 ?_
 refine wpAnyH_done (by kernel_rfl) ?_ _
 refine NoPanic.normal ?_
 go_wp2
 go_ret
 exact ⟨rfl,rfl⟩
end Go.Proofs.Ytlaljeobdddegaa

namespace Go.Proofs.Ytlaljeobdddegaa
open Go.RowKit Mp
def NumR (w:World) (la:Option Addr) (l:List Nat):Prop:=∀ k y,l[k]?=some y→∃ b o,la=some ⟨b,o,none⟩∧w.cell? ⟨b,o+k,none⟩=some (.int .i64 (y:Nat))
theorem idx_lt {x:Nat}:∀ {l:List Nat} {k:Nat},x ∉ l.take k→l[k]?=some x→l.idxOf x=k
 | a :: t,0,_,h=>by
  have:a=x:=by simpa using h
  rw [List.idxOf_cons,this];simp
 | a :: t,k+1,hn,h=>by
  rw [List.take_succ_cons,List.mem_cons,not_or] at hn
  have hb:(a == x)=false:=beq_eq_false_iff_ne.2 (fun e=>hn.1 e.symm)
  rw [List.idxOf_cons,hb]
  simp only [cond_false]
  rw [idx_lt hn.2 (by simpa using h)]
set_option maxRecDepth 100000 in
set_option maxHeartbeats 8000000 in
theorem index_any (w:World) (la:Option Addr) (lc:Nat) (l:List Nat) (x:Nat) (hl:l.length≤1000000) (hr:NumR w la l) :
  Calls Try.prog 78 #[.slice la l.length lc,.int .i64 (x:Nat)] w fun e w'=>∃ r:Int,e = .returned (.int .i64 r)∧(0≤r↔x ∈ l)∧(x ∈ l→r=(l.idxOf x:Nat))∧w'=w:=by
 have HR:=hidden hr
 obtain ⟨ln,Eln⟩:=exh l.length
 rw [←Eln.out] at hl
 rw [←Eln.out]
 clear hr
 go_enter Try.func78,Try.ntmps78
 go_wp2_with fail
 go_loopw [5,8] (fun _ i' w'=>∃ k:Nat,k≤ln∧i' = .int .i64 (k:Int)∧Hid (x ∉ l.take k)∧Hid (w'=w)) (fun _ i' _=>ln - (intOf i').toNat)
 case atStart=>exact ⟨0,Nat.zero_le _,rfl,(by show x ∉ l.take 0;simp),rfl⟩
 case round =>
  obtain ⟨k,hk,rfl,HX,HW⟩:=hrel
  by_cases hlt:k<ln
  ·have hltI:(k:Int)<(ln:Int):=by omega
   obtain ⟨y,hy⟩:=getElem_lt (show k<l.length by rw [←Eln.out];exact hlt)
   obtain ⟨b,o,ea,cx⟩:=HR.out k y hy
   rw [←HW.out] at cx
   have e2:IntKind.i64.wrap ((k:Int)+1)=(k:Int)+1:=wrapI _ (by omega) (by omega)
   have HN:Hid (x≠y→x ∉ l.take (k+1)):=fun hne hm=>by
    rw [take_next _ k _ hy] at hm
    rcases List.mem_append.1 hm with h | h
    ·exact HX.out h
    ·exact hne (by simpa using h)
   have HM:Hid (y ∈ l):=List.mem_of_getElem? hy
   have HI:Hid (x=y→l.idxOf x=k):=fun e=>idx_lt HX.out (by rw [e];exact hy)
   subst ea
   clear hy HX
   by_cases e:x=y
   ·subst e
    have HI2:Hid (l.idxOf x=k):=HI.out rfl
    clear HI
    go_wp2
    go_ret
    exact ⟨(k:Int),rfl,⟨fun _=>HM.out,fun _=>by omega⟩,fun _=>by rw [HI2.out],HW.out⟩
   ·have hne:¬ (x:Int)=(y:Int):=by omega
    have HN2:=hidden (HN.out e)
    clear e HN HI
    go_wp2
    go_roundw
    case measure=>simp [intOf];omega
    case rel=>exact ⟨k+1,by omega,by simp,HN2.out,HW.out⟩
  ·obtain rfl:k=ln:=by omega
   have hge:¬ (k:Int)<(k:Int):=by omega
   have HX2:Hid (x ∉ l):=by
    have:=HX.out
    rw [List.take_of_length_le (by rw [←Eln.out];exact Nat.le_refl _)] at this
    exact this
   go_wp2
   go_ret
   exact ⟨-1,rfl,⟨fun h=>absurd h (by decide),fun h=>absurd h HX2.out⟩,fun h=>absurd h HX2.out,HW.out⟩
set_option maxRecDepth 100000 in
set_option maxHeartbeats 8000000 in
theorem contains_any (w:World) (la:Option Addr) (lc:Nat) (l:List Nat) (x:Nat) (hl:l.length≤1000000) (hr:NumR w la l) :
  Calls Try.prog 84 #[.slice la l.length lc,.int .i64 (x:Nat)] w fun e w'=>e = .returned (.bool (decide (x ∈ l)))∧w'=w:=by
 have IX:=hidden (index_any w la lc l x hl hr)
 obtain ⟨ln,Eln⟩:=exh l.length
 rw [←Eln.out] at IX
 rw [←Eln.out]
 clear hr hl
 go_enter Try.func84,Try.ntmps84
 go_wp2_with fail
 go_at_call 78
 refine IX.out.mono ?_
 rintro e v ⟨r,rfl,hr,_,hv⟩
 rw [hv]
 clear hv v
 have HR:=hidden hr
 clear hr
 go_wp2
 go_ret
 exact ⟨ret_bool (by rw [decide_eq_decide];exact HR.out),rfl⟩
set_option maxRecDepth 100000 in
set_option maxHeartbeats 8000000 in
theorem nanC_any (w:World) (x:Int):Calls Try.prog 82 #[.int .i64 x] w fun e w'=>e = .returned (.bool false)∧w'=w:=by
 go_enter Try.func82,Try.ntmps82
 go_wp2
 go_ret
 exact ⟨ret_bool (by simp),rfl⟩
set_option maxRecDepth 100000 in
set_option maxHeartbeats 8000000 in
theorem nanS_any (w:World) (x:Int):Calls Try.prog 80 #[.int .i64 x] w fun e w'=>e = .returned (.bool false)∧w'=w:=by
 go_enter Try.func80,Try.ntmps80
 go_wp2
 go_ret
 exact ⟨ret_bool (by simp),rfl⟩
set_option maxRecDepth 100000 in
set_option maxHeartbeats 8000000 in
theorem less_any (w:World) (x y:Int):Calls Try.prog 79 #[.int .i64 x,.int .i64 y] w fun e w'=>e = .returned (.bool (decide (x<y)))∧w'=w:=by
 have N1:=hidden (nanC_any w x)
 go_enter Try.func79,Try.ntmps79
 go_wp2_with fail
 go_at_call 82
 refine N1.out.mono ?_
 rintro e v ⟨rfl,hv⟩
 rw [hv]
 clear hv v
 go_wp2
 go_ret
 exact ⟨ret_bool rfl,rfl⟩
end Go.Proofs.Ytlaljeobdddegaa
