import Derived.Test.YtlaljeobdddegaaJ06
import Derived.Test.YtlaljeobdddegaaJ27
import Derived.Test.YtlaljeobdddegaaJ37
namespace Go.Proofs.Ytlaljeobdddegaa
open Go.RowKit
theorem renL_half {lits:List Int} {l:Int} (h:0≤lits.getD (l / 2).toNat 0):renL lits l / 2=lits.getD (l / 2).toNat 0 / 2:=by
 unfold renL
 split
 ·exact (flipI_facts _ h).2.1
 ·rfl
def GateH (first:Nat) (hs:List AndD) (lits:List Int) (d:AndD) (x:Int):Prop :=
 x / 2=0∨x / 2=lits.getD (d.x / 2).toNat 0 / 2∨x / 2=lits.getD (d.y / 2).toNat 0 / 2∨∃ (i:Nat) (e:AndD),hs[i]?=some e∧x / 2=(first:Int)+(i:Int)∧((e.x / 2=lits.getD (d.x / 2).toNat 0 / 2∧e.y / 2=lits.getD (d.y / 2).toNat 0 / 2)∨(e.x / 2=lits.getD (d.y / 2).toNat 0 / 2∧e.y / 2=lits.getD (d.x / 2).toNat 0 / 2))
theorem andH_gate (first:Nat) (hs:List AndD) (a b:Int):(∃ r,(andH first hs a b).1=hs++r)∧((andH first hs a b).2 / 2=0∨(andH first hs a b).2 / 2=a / 2∨(andH first hs a b).2 / 2=b / 2∨∃ (i:Nat) (e:AndD),(andH first hs a b).1[i]?=some e∧(andH first hs a b).2 / 2=(first:Int)+(i:Int)∧((e.x / 2=a / 2∧e.y / 2=b / 2)∨(e.x / 2=b / 2∧e.y / 2=a / 2))):=by
 have hab:(max a b=a∧min a b=b)∨(max a b=b∧min a b=a):=by omega
 unfold andH
 split
 ·exact ⟨⟨[],by simp⟩,Or.inl (show (0:Int) / 2=0 by decide)⟩
 ·split
  ·refine ⟨⟨[],by simp⟩,Or.inr ?_⟩
   rcases hab with ⟨h1,_⟩ | ⟨h1,_⟩
   ·left;show max a b / 2=a / 2;rw [h1]
   ·right;left;show max a b / 2=b / 2;rw [h1]
  ·split
   ·rename_i i hi
    obtain ⟨e,he,hx,hy⟩:=findG_some hi
    refine ⟨⟨[],by simp⟩,Or.inr (Or.inr (Or.inr ⟨i,e,he,by show 2*((first:Int)+(i:Int)) / 2=_;omega,?_⟩))⟩
    rcases hab with ⟨h1,h2⟩ | ⟨h1,h2⟩
    ·left;rw [hx,hy,h1,h2];exact ⟨rfl,rfl⟩
    ·right;rw [hx,hy,h1,h2];exact ⟨rfl,rfl⟩
   ·refine ⟨⟨_,rfl⟩,Or.inr (Or.inr (Or.inr ⟨hs.length,⟨max a b,min a b⟩,by simp,by show 2*((first:Int)+(hs.length:Int)) / 2=_;omega,?_⟩))⟩
    rcases hab with ⟨h1,h2⟩ | ⟨h1,h2⟩
    ·left;show max a b / 2=_∧min a b / 2=_;rw [h1,h2];exact ⟨rfl,rfl⟩
    ·right;show max a b / 2=_∧min a b / 2=_;rw [h1,h2];exact ⟨rfl,rfl⟩
theorem GateH.more {first:Nat} {hs r:List AndD} {lits m:List Int} {d:AndD} {x:Int} (h:GateH first hs lits d x) (hx:(d.x / 2).toNat<lits.length) (hy:(d.y / 2).toNat<lits.length):GateH first (hs++r) (lits++m) d x:=by
 have e1:(lits++m).getD (d.x / 2).toNat 0=lits.getD (d.x / 2).toNat 0:=by rw [List.getD_eq_getElem?_getD,List.getD_eq_getElem?_getD,List.getElem?_append_left hx]
 have e2:(lits++m).getD (d.y / 2).toNat 0=lits.getD (d.y / 2).toNat 0:=by rw [List.getD_eq_getElem?_getD,List.getD_eq_getElem?_getD,List.getElem?_append_left hy]
 unfold GateH at *
 rw [e1,e2]
 rcases h with h | h | h | ⟨i,e,he,h⟩
 ·exact Or.inl h
 ·exact Or.inr (Or.inl h)
 ·exact Or.inr (Or.inr (Or.inl h))
 ·exact Or.inr (Or.inr (Or.inr ⟨i,e,by rw [List.getElem?_append_left (List.getElem?_eq_some_iff.1 he).1];exact he,h⟩))
structure GatesH (first:Nat) (ands:List AndD) (s:List AndD × List Int):Prop where
 len:s.2.length=first+ands.length
 src:∀ v,v<first→s.2[v]?=some (2*(v:Int))
 gate:∀ (k:Nat) (d:AndD),ands[k]?=some d→∃ x,s.2[first+k]?=some x∧GateH first s.1 s.2 d x
theorem gates_start (first:Nat):GatesH first [] (startH first):=by
 refine ⟨by simp [startH],fun v hv=>?_,fun k d hd=>by simp at hd⟩
 unfold startH
 rw [List.getElem?_map,List.getElem?_range hv];rfl
theorem gates_step {first:Nat} {ands:List AndD} {s:List AndD × List Int} (h:GatesH first ands s) (hpos:∀ (v:Nat) (x:Int),s.2[v]?=some x→0≤x) (hold:∀ (k:Nat) (d:AndD),ands[k]?=some d→(d.x / 2).toNat<first+k∧(d.y / 2).toNat<first+k) {d:AndD} (hx:(d.x / 2).toNat<first+ands.length) (hy:(d.y / 2).toNat<first+ands.length):GatesH first (ands++[d]) (stepH first s d):=by
 have hge:∀ v:Nat,0≤s.2.getD v 0:=fun v=>by
  rw [List.getD_eq_getElem?_getD]
  cases e:s.2[v]? with
  | none=>exact Int.le_refl _
  | some x=>exact hpos v x e
 obtain ⟨⟨r,hr⟩,hg⟩:=andH_gate first s.1 (renL s.2 d.x) (renL s.2 d.y)
 have e1:(stepH first s d).1=s.1++r:=hr
 have e2:(stepH first s d).2=s.2++[(andH first s.1 (renL s.2 d.x) (renL s.2 d.y)).2]:=rfl
 refine ⟨by rw [e2,List.length_append,List.length_append,h.len];simp;omega,fun v hv=>?_,fun k d' hd'=>?_⟩
 ·rw [e2,List.getElem?_append_left (by rw [h.len];omega)];exact h.src v hv
 ·by_cases hk:k<ands.length
  ·rw [List.getElem?_append_left hk] at hd'
   obtain ⟨x,hx1,hx2⟩:=h.gate k d' hd'
   have hlo:=hold k d' hd'
   refine ⟨x,by rw [e2,List.getElem?_append_left (by rw [h.len];omega)];exact hx1,?_⟩
   rw [e1,e2]
   exact hx2.more (by rw [h.len];omega) (by rw [h.len];omega)
  ·have hk2:k=ands.length:=by
    have:=(List.getElem?_eq_some_iff.1 hd').1
    simp at this;omega
   subst hk2
   rw [List.getElem?_append_right (Nat.le_refl _)] at hd'
   simp at hd'
   subst hd'
   refine ⟨_,by rw [e2,List.getElem?_append_right (by rw [h.len];exact Nat.le_refl _),h.len];simp;rfl,?_⟩
   rw [renL_half (hge _),renL_half (hge _)] at hg
   have hh:GateH first ((andH first s.1 (renL s.2 d.x) (renL s.2 d.y)).1++[]) (s.2++[(andH first s.1 (renL s.2 d.x) (renL s.2 d.y)).2]) d (andH first s.1 (renL s.2 d.x) (renL s.2 d.y)).2:=GateH.more hg (by rw [h.len];exact hx) (by rw [h.len];exact hy)
   rw [List.append_nil] at hh
   exact hh
theorem gates_all {first:Nat} (hf:1≤first) (ands:List AndD) (h:∀ (k:Nat) (d:AndD),ands[k]?=some d→(0≤d.x∧d.x<2*((first+k:Nat):Int))∧(0≤d.y∧d.y<2*((first+k:Nat):Int))):GatesH first ands (hashK first ands):=by
 have key:∀ n,n≤ands.length→GatesH first (ands.take n) (hashK first (ands.take n)):=by
  intro n
  induction n with
  | zero=>intro _;rw [List.take_zero];exact gates_start first
  | succ n ih =>
   intro hn
   obtain ⟨d,hd⟩:=getElem_lt (show n<ands.length by omega)
   have hok:HashOk first (ands.take n) (hashK first (ands.take n)):=hash_all hf _ (fun k e he=>h k e (by
    rw [List.getElem?_take] at he
    split at he
    ·exact he
    ·cases he))
   have hl:(ands.take n).length=n:=by rw [List.length_take];omega
   have hdb:=h n d hd
   rw [take_next _ n _ hd,hashK_next]
   refine gates_step (ih (by omega)) (fun v x hx=>(hok.lits v x hx).1) (fun k e he=>?_) (by rw [hl];omega) (by rw [hl];omega)
   have:=h k e (by
    rw [List.getElem?_take] at he
    split at he
    ·exact he
    ·cases he)
   omega
 have:=key ands.length (Nat.le_refl _)
 rw [List.take_length] at this
 exact this
end Go.Proofs.Ytlaljeobdddegaa

namespace Go.Proofs.Ytlaljeobdddegaa
open Go.RowKit
def AndsLow (first:Nat) (ands:List AndD):Prop:=∀ (k:Nat) (d:AndD),ands[k]?=some d→(0≤d.x∧d.x<2*((first+k:Nat):Int))∧(0≤d.y∧d.y<2*((first+k:Nat):Int))
def grA (first:Nat) (ands:List AndD) (v:Nat):Nat:=match ands[v - first]? with | some d=>(d.x / 2).toNat | none=>0
def grB (first:Nat) (ands:List AndD) (v:Nat):Nat:=match ands[v - first]? with | some d=>(d.y / 2).toNat | none=>0
def grOf (first:Nat) (ands:List AndD) (hf:0<first) (h:AndsLow first ands):Mp.Gr :=
 ⟨first,grA first ands,grB first ands,hf,fun v hv=>by
  unfold grA
  cases e:ands[v - first]? with
  | none=>show 0<v;omega
  | some d=>have:=h _ d e;show (d.x / 2).toNat<v;omega,fun v hv=>by
  unfold grB
  cases e:ands[v - first]? with
  | none=>show 0<v;omega
  | some d=>have:=h _ d e;show (d.y / 2).toNat<v;omega⟩
theorem grA_at {first k:Nat} {ands:List AndD} {d:AndD} (hd:ands[k]?=some d):grA first ands (first+k)=(d.x / 2).toNat∧grB first ands (first+k)=(d.y / 2).toNat:=by
 unfold grA grB
 rw [show first+k - first=k by omega,hd]
 exact ⟨rfl,rfl⟩
def muH (lits:List Int) (v:Nat):Nat:=(lits.getD v 0 / 2).toNat
theorem hash_map {first:Nat} {ands hs:List AndD} {lits:List Int} (hf:0<first) (h:AndsLow first ands) (hh:AndsLow first hs) (hG:GatesH first ands (hs,lits)):Mp.HashM (grOf first ands hf h) (grOf first hs hf hh) (first+ands.length) (muH lits):=by
 have hsrc:∀ v,v<first→muH lits v=v:=fun v hv=>by
  unfold muH
  rw [List.getD_eq_getElem?_getD,hG.src v hv]
  simp only [Option.getD_some]
  omega
 refine ⟨hsrc 0 hf,fun v hv=>?_,fun v hv hg=>?_⟩
 ·show muH lits v<first
  rw [hsrc v hv];exact hv
 ·have hg':first≤v:=hg
  obtain ⟨k,rfl⟩:∃ k,v=first+k:=⟨v - first,by omega⟩
  obtain ⟨d,hd⟩:=getElem_lt (show k<ands.length by omega)
  obtain ⟨x,hx,hgt⟩:=hG.gate k d hd
  obtain ⟨ea,eb⟩:=grA_at (first:=first) hd
  have ex:muH lits (first+k)=(x / 2).toNat:=by unfold muH;rw [List.getD_eq_getElem?_getD,hx];rfl
  show muH lits (first+k)=0∨muH lits (first+k)=muH lits (grA first ands (first+k))∨muH lits (first+k)=muH lits (grB first ands (first+k))∨(first≤muH lits (first+k)∧((grA first hs (muH lits (first+k))=muH lits (grA first ands (first+k))∧grB first hs (muH lits (first+k))=muH lits (grB first ands (first+k)))∨(grA first hs (muH lits (first+k))=muH lits (grB first ands (first+k))∧grB first hs (muH lits (first+k))=muH lits (grA first ands (first+k)))))
  rw [ea,eb,ex]
  rcases hgt with e | e | e | ⟨i,g,hgi,e,hor⟩
  ·left;omega
  ·right;left;unfold muH;rw [e]
  ·right;right;left;unfold muH;rw [e]
  ·right;right;right
   have en:(x / 2).toNat=first+i:=by omega
   obtain ⟨ha,hb⟩:=grA_at (first:=first) (show hs[i]?=some g from hgi)
   rw [en,ha,hb]
   refine ⟨by omega,?_⟩
   rcases hor with ⟨e1,e2⟩ | ⟨e1,e2⟩
   ·left;unfold muH;rw [←e1,←e2];exact ⟨rfl,rfl⟩
   ·right;unfold muH;rw [←e1,←e2];exact ⟨rfl,rfl⟩
end Go.Proofs.Ytlaljeobdddegaa

namespace Go.Proofs.Ytlaljeobdddegaa
open Go.RowKit Mp
def grG {G:GrD} {ni n:Nat} (h:FineG G ni n):Gr:=grOf (firstN G) G.ands (by unfold firstN;omega) h.ands
def iaG (G:GrD) (v:Nat):Bool:=match G.ands[v - firstN G]? with | some d=>decide (d.x % 2=1) | none=>false
def ibG (G:GrD) (v:Nat):Bool:=match G.ands[v - firstN G]? with | some d=>decide (d.y % 2=1) | none=>false
def Fd {G:GrD} {ni n:Nat} (h:FineG G ni n) (k:Nat):List (List Ct) × List Nat:=foundN (grG h) (iaG G) (ibG G) k
theorem fd_ok {G:GrD} {ni n:Nat} (h:FineG G ni n) {k:Nat} (hk:k≤G.ands.length):FOk (grG h) (iaG G) (ibG G) n k (Fd h k):=found_ok _ _ _ n k (by have:=h.all;show firstN G+k≤n;omega)
theorem fd_len {G:GrD} {ni n:Nat} (h:FineG G ni n) {k:Nat} (hk:k≤G.ands.length):(Fd h k).1.length=firstN G+k∧(Fd h k).2.length=firstN G+k:=⟨(fd_ok h hk).l1,(fd_ok h hk).l2⟩
theorem Mp.CutsP.dlev {G:Gr} {N:Nat} {K:Nat→List (List Nat)} {dp:Nat→Nat} (h:CutsP G N K dp) (v:Nat) (hv:v<N):dp v≤v:=by
 induction v using Nat.strongRecOn with
 | _ v ih =>
  by_cases hg:v<G.first
  ·rw [h.d0 v hg];exact Nat.zero_le _
  ·obtain ⟨k,hk,he⟩:=h.dex v hv (by omega)
   have hl:=((h.sound v hv).2.2 k (by omega) hk).2.2
   have:mxC dp k≤v - 1:=(mxC_iff _ _ _).2 (fun u hu=>by have h1:=hl u hu;have h2:=ih u h1 (by omega);omega)
   have:=G.pos
   omega
theorem fd_fin {G:GrD} {ni n:Nat} (h:FineG G ni n) {k:Nat} (hk:k≤G.ands.length):FinF (Fd h k).1∧(∀ v,v<firstN G+k→∀ c,c ∈ (Fd h k).1.getD v []→c.dep≤60000)∧(∀ d,d ∈ (Fd h k).2→d≤60000):=by
 have ok:=fd_ok h hk
 have l1:=(fd_len h hk).1
 have l2:=(fd_len h hk).2
 have hle:=h.le
 have hall:=h.all
 have hdl:∀ v,v<firstN G+k→dOf (Fd h k).2 v≤v:=fun v hv=>ok.cp.dlev v hv
 refine ⟨⟨fun v hv hn=>?_,fun v hv c hc=>?_,fun v hv=>ok.few (by rw [l1] at hv;exact hv)⟩,fun v hv c hc=>?_,fun d hd=>?_⟩
 ·rw [l1] at hv
  have e:KOf (Fd h k).1 v=[]:=by unfold KOf;rw [hn];rfl
  by_cases h0:v=0
  ·rw [h0,ok.cp.zero] at e;cases e
  ·have:=(ok.cp.sound v hv).2.1 (by omega)
   rw [e] at this;cases this
 ·rw [l1] at hv
  obtain ⟨h1,h2⟩:=ok.ok v hv c hc
  obtain ⟨a1,a2,_,a4⟩:=(ok.cp.sound v hv).1 c.lv (List.mem_map.2 ⟨c,hc,rfl⟩)
  exact ⟨a1,⟨a2,fun u hu=>by have:=a4 u hu;rw [l1];omega⟩,h1.lt⟩
 ·obtain ⟨_,h2⟩:=ok.ok v hv c hc
  obtain ⟨_,_,_,a4⟩:=(ok.cp.sound v hv).1 c.lv (List.mem_map.2 ⟨c,hc,rfl⟩)
  rw [h2]
  exact (mxC_iff _ _ _).2 (fun u hu=>by have h1:=a4 u hu;have:=hdl u (by omega);omega)
 ·obtain ⟨i,hi⟩:=List.getElem?_of_mem hd
  have hlt:=(List.getElem?_eq_some_iff.1 hi).1
  have:=hdl i (by omega)
  unfold dOf at this
  rw [List.getD_eq_getElem?_getD,hi] at this
  simp only [Option.getD_some] at this
  omega
theorem flat_few {α:Type} (m:Nat):∀ (Cs:List (List α)),(∀ v,v<Cs.length→(Cs.getD v []).length≤m)→Cs.flatten.length≤m*Cs.length
 | [],_=>by simp
 | a :: t,h=>by
  have h1:=flat_few m t (fun v hv=>by have:=h (v+1) (by rw [List.length_cons];omega);simpa using this)
  have h2:=h 0 (by simp)
  rw [List.flatten_cons,List.length_append,List.length_cons,Nat.mul_add]
  have h3:a.length≤m:=by simpa using h2
  omega
theorem fd_flat {G:GrD} {ni n:Nat} (h:FineG G ni n) {k:Nat} (hk:k≤G.ands.length):(Fd h k).1.flatten.length≤20000000:=by
 have:=flat_few 257 (Fd h k).1 (fd_fin h hk).1.few
 rw [(fd_len h hk).1] at this
 have h1:=h.le
 have h2:=h.all
 omega
theorem fd_next {G:GrD} {ni n:Nat} (h:FineG G ni n) {k:Nat} {d:AndD} (hd:G.ands[k]?=some d):Fd h (k+1)=((Fd h k).1++[⟨[firstN G+k],1+minD (cutsT (KOf (Fd h k).1) (decide (d.x % 2=1)) (decide (d.y % 2=1)) ((Fd h k).1.getD (d.x / 2).toNat []) ((Fd h k).1.getD (d.y / 2).toNat [])),43690⟩ :: cutsT (KOf (Fd h k).1) (decide (d.x % 2=1)) (decide (d.y % 2=1)) ((Fd h k).1.getD (d.x / 2).toNat []) ((Fd h k).1.getD (d.y / 2).toNat [])],(Fd h k).2++[1+minD (cutsT (KOf (Fd h k).1) (decide (d.x % 2=1)) (decide (d.y % 2=1)) ((Fd h k).1.getD (d.x / 2).toNat []) ((Fd h k).1.getD (d.y / 2).toNat []))]):=by
 have hk:=(List.getElem?_eq_some_iff.1 hd).1
 have l1:=(fd_len h (Nat.le_of_lt hk)).1
 obtain ⟨ea,eb⟩:=grA_at (first:=firstN G) hd
 have ei:iaG G (firstN G+k)=decide (d.x % 2=1):=by unfold iaG;rw [show firstN G+k - firstN G=k by omega,hd]
 have ej:ibG G (firstN G+k)=decide (d.y % 2=1):=by unfold ibG;rw [show firstN G+k - firstN G=k by omega,hd]
 have e1:(grG h).a (firstN G+k)=(d.x / 2).toNat:=ea
 have e2:(grG h).b (firstN G+k)=(d.y / 2).toNat:=eb
 have en:newT (grG h) (iaG G) (ibG G) (Fd h k).1=cutsT (KOf (Fd h k).1) (decide (d.x % 2=1)) (decide (d.y % 2=1)) ((Fd h k).1.getD (d.x / 2).toNat []) ((Fd h k).1.getD (d.y / 2).toNat []):=by
  unfold newT;rw [l1,ei,ej,e1,e2]
 show stepF (grG h) (iaG G) (ibG G) (Fd h k)=_
 unfold stepF
 rw [en,l1]
theorem fd_ne {G:GrD} {ni n:Nat} (h:FineG G ni n) {k:Nat} {d:AndD} (hd:G.ands[k]?=some d):cutsT (KOf (Fd h k).1) (decide (d.x % 2=1)) (decide (d.y % 2=1)) ((Fd h k).1.getD (d.x / 2).toNat []) ((Fd h k).1.getD (d.y / 2).toNat [])≠[]∧(∀ c,c ∈ cutsT (KOf (Fd h k).1) (decide (d.x % 2=1)) (decide (d.y % 2=1)) ((Fd h k).1.getD (d.x / 2).toNat []) ((Fd h k).1.getD (d.y / 2).toNat [])→c.dep≤60000)∧(cutsT (KOf (Fd h k).1) (decide (d.x % 2=1)) (decide (d.y % 2=1)) ((Fd h k).1.getD (d.x / 2).toNat []) ((Fd h k).1.getD (d.y / 2).toNat [])).length≤256:=by
 have hk:=(List.getElem?_eq_some_iff.1 hd).1
 have l1:=(fd_len h (Nat.le_of_lt hk)).1
 have nx:=fd_next h hd
 have fn:=fd_fin h (show k+1≤G.ands.length by omega)
 have hg:(Fd h (k+1)).1.getD (firstN G+k) []=⟨[firstN G+k],1+minD (cutsT (KOf (Fd h k).1) (decide (d.x % 2=1)) (decide (d.y % 2=1)) ((Fd h k).1.getD (d.x / 2).toNat []) ((Fd h k).1.getD (d.y / 2).toNat [])),43690⟩ :: cutsT (KOf (Fd h k).1) (decide (d.x % 2=1)) (decide (d.y % 2=1)) ((Fd h k).1.getD (d.x / 2).toNat []) ((Fd h k).1.getD (d.y / 2).toNat []):=by
  rw [nx]
  have:=getD_snoc (Fd h k).1 (⟨[firstN G+k],1+minD (cutsT (KOf (Fd h k).1) (decide (d.x % 2=1)) (decide (d.y % 2=1)) ((Fd h k).1.getD (d.x / 2).toNat []) ((Fd h k).1.getD (d.y / 2).toNat [])),43690⟩ :: cutsT (KOf (Fd h k).1) (decide (d.x % 2=1)) (decide (d.y % 2=1)) ((Fd h k).1.getD (d.x / 2).toNat []) ((Fd h k).1.getD (d.y / 2).toNat [])) []
  rw [l1] at this
  exact this
 refine ⟨?_,fun c hc=>fn.2.1 (firstN G+k) (by omega) c (by rw [hg];exact List.mem_cons_of_mem _ hc),?_⟩
 ·have ok:=fd_ok h (Nat.le_of_lt hk)
  have:=(newT_spec ok (by have:=h.all;show firstN G+k<n;omega)).2.1
  have e:newT (grG h) (iaG G) (ibG G) (Fd h k).1=cutsT (KOf (Fd h k).1) (decide (d.x % 2=1)) (decide (d.y % 2=1)) ((Fd h k).1.getD (d.x / 2).toNat []) ((Fd h k).1.getD (d.y / 2).toNat []):=by
   obtain ⟨ea,eb⟩:=grA_at (first:=firstN G) hd
   have ei:iaG G (firstN G+k)=decide (d.x % 2=1):=by unfold iaG;rw [show firstN G+k - firstN G=k by omega,hd]
   have ej:ibG G (firstN G+k)=decide (d.y % 2=1):=by unfold ibG;rw [show firstN G+k - firstN G=k by omega,hd]
   have e1:(grG h).a (firstN G+k)=(d.x / 2).toNat:=ea
   have e2:(grG h).b (firstN G+k)=(d.y / 2).toNat:=eb
   unfold newT;rw [l1,ei,ej,e1,e2]
  rw [←e];exact this
 ·have:=fn.1.few (firstN G+k) (by rw [(fd_len h (show k+1≤G.ands.length by omega)).1];omega)
  rw [hg,List.length_cons] at this
  omega
theorem FnB.fin {w:World} {fb:Nat} {Cs:List (List Ct)} {ds:List Nat} (h:FnB w fb Cs ds) (hne:Cs≠[]) (hne2:Cs.flatten≠[]) (lv4:∀ cs,cs ∈ Cs→∀ c,c ∈ cs→c.lv.length≤4):∃ S:FnS,S.fb=fb∧FinR w S Cs∧FnLow w.heap.size S∧(∃ db cd,w.cell? ⟨fb,2,none⟩=some (.slice (some ⟨db,0,none⟩) ds.length cd)∧fb<db∧∀ v d,ds[v]?=some d→w.cell? ⟨db,v,none⟩=some (.int .i64 (d:Nat)))∨ds=[]:=by
 obtain ⟨av,ev,dv,h1,h2,h3,_⟩:=h.ex
 have hfl:=h1.lt
 rcases h2.oa.2 with ⟨_,e⟩ | ⟨ab,ca,cura,rfl,ga,ha,la,_,sa,ta⟩
 ·exact absurd (List.eq_nil_of_length_eq_zero e) hne2
 rcases h2.oe.2 with ⟨_,e⟩ | ⟨eb,ce,cure,rfl,ge,he,le,_,se,te⟩
 ·exact absurd (List.eq_nil_of_length_eq_zero e) hne
 have hal:=(Array.getElem?_eq_some_iff.1 ha).1
 have hel:=(Array.getElem?_eq_some_iff.1 he).1
 rcases h3.2 with ⟨_,e⟩ | ⟨db,cd,curd,rfl,gd,hd,ld,_,sd,td⟩
 ·exact ⟨⟨fb,ab,ca,eb,ce⟩,Or.inr (List.eq_nil_of_length_eq_zero e)⟩
 ·refine ⟨⟨fb,ab,ca,eb,ce⟩,Or.inl ⟨rfl,⟨h1.cell (i:=0) rfl,h1.cell (i:=1) rfl,hfl,hel,la,fun k c hc=>?_,fun v hv=>?_,by have:=h2.few;omega,h2.num,lv4⟩,⟨hfl,hal,hel⟩,db,cd,h1.cell (i:=2) rfl,by omega,fun v d hdv=>?_⟩⟩
  ·refine CtAt.of hal (fun j v hv=>?_)
   have h5:=flC_at hc hv
   have h6:=(List.getElem?_eq_some_iff.1 h5).1
   rw [flC_len] at h6
   rw [←ta,List.getElem?_take_of_lt h6,Array.getElem?_toList] at h5
   simp [World.cell?,ha,h5]
  ·have h5:((endsL Cs).map nV)[v]?=some (nV (stO Cs (v+1))):=by
    unfold endsL
    rw [List.getElem?_map,List.getElem?_map,List.getElem?_range hv];rfl
   rw [←te,List.getElem?_take_of_lt (by omega),Array.getElem?_toList] at h5
   simp [World.cell?,he,h5,nV]
  ·have hlt:=(List.getElem?_eq_some_iff.1 hdv).1
   have h5:(ds.map nV)[v]?=some (nV d):=by rw [List.getElem?_map,hdv];rfl
   rw [←td,List.getElem?_take_of_lt (by omega),Array.getElem?_toList] at h5
   simp [World.cell?,hd,h5,nV]
set_option maxRecDepth 100000 in
set_option maxHeartbeats 8000000 in
theorem first_any (w:World) (p:Nat) (S:GrS) (G:GrD) (ni n:Nat) (hF:FineG G ni n) (h:BoxAt w p S G) :
  Calls Try.prog 35 #[.pointer (some ⟨p,0,none⟩)] w fun e w'=>e = .returned (.int .i64 (firstN G:Nat))∧Bl w w':=by
 have h1:=hF.ins
 have h2:=hF.first
 have h3:=hF.le
 have h4:=hF.all
 obtain ⟨lt,c0,c1,c2,c3⟩:=h
 rw [h1] at c0
 have e1:IntKind.i64.wrap (1+(ni:Int))=1+(ni:Int):=wrapI _ (by omega) (by omega)
 have e2:IntKind.i64.wrap (1+(ni:Int)+(G.lats.length:Int))=(firstN G:Int):=by rw [wrapI _ (by omega) (by omega)];omega
 have HF:=hidden h2
 generalize firstN G=f at *
 generalize G.lats.length=nl at *
 clear h1 h2 h3 h4 hF c2 c3
 go_enter Try.func35,Try.ntmps35
 go_wp2_with fail
 refine wp_region_noPanic ?_
 refine wp_region_held_drew (S:=fun wz=>wz.cell? ⟨p,0,none⟩=some (.int .i64 (ni:Int))∧wz.cell? ⟨p,1,none⟩=some (.slice S.a1 nl S.c1)) (by kernel_rfl) (by exact ⟨c0,c1⟩) (fun hHeld=>?_)
 refine tk 0 ?_
 refine tk 1 ?_
 refine tk 2 ?_
 refine tk 3 ?_
 refine tk 4 ?_
 refine tk 5 ?_
 refine tk 6 ?_
 refine tk 7 ?_
 refine tk 8 ?_
 refine tk 9 ?_
 refine tk 10 ?_
 refine tk 11 ?_
 refine wpAnyH_done (by kernel_rfl) ?_ _
 refine NoPanic.normal ?_
 go_wp2
 go_ret
 exact ⟨rfl,Below.drew (Below.refl _ _)⟩
end Go.Proofs.Ytlaljeobdddegaa

namespace Go.Proofs.Ytlaljeobdddegaa
open Go.RowKit Mp
theorem mkM_nil:mkM []=0:=by
 refine nat_eq (fun i=>?_)
 rw [mkM_bit,Nat.zero_testBit];simp
theorem ctZ:(ctC ⟨[],0,0⟩).toArray = #[.int .i64 0,.int .i64 0,.int .i64 0,.int .i64 0,.int .i64 0,.int .u64 0,.int .i64 0,.int .u16 0]:=by
 unfold ctC
 rw [show mkM (⟨[],0,0⟩:Ct).lv=0 from mkM_nil];rfl
theorem FnB.at {w:World} {fb:Nat} {Cs:List (List Ct)} {ds:List Nat} (h:FnB w fb Cs ds):FnBelow w fb w.heap.size:=fun av ev dv hb=>by
 obtain ⟨av',ev',dv',h1,h2,h3,_⟩:=h.ex
 have e:#[av,ev,dv] = #[av',ev',dv']:=by
  have h4:w.heap[fb]?=_:=hb
  rw [show w.heap[fb]?=_ from h1] at h4
  simp only [Option.some.injEq,Obj.cells.injEq,and_true] at h4
  exact h4.symm
 simp only [Array.mk.injEq,List.cons.injEq,and_true] at e
 obtain ⟨rfl,rfl,rfl⟩:=e
 exact ⟨own_lt h2.oa,own_lt h2.oe,own_lt h3⟩
theorem FnB.lt {w:World} {fb:Nat} {Cs:List (List Ct)} {ds:List Nat} (h:FnB w fb Cs ds):fb<w.heap.size:=by
 obtain ⟨_,_,_,h1,_⟩:=h.ex
 exact h1.lt
theorem FnBelow.to {w w':World} {fb T:Nat} (h:FnBelow w fb T) (hb:Bl w w') (hf:fb<w.heap.size):FnBelow w' fb T:=fun av ev dv hk=>h av ev dv ((hb.block fb hf).symm.trans hk)
theorem CtsR.one {w:World} {b:Nat} {c:Ct} (h:Blk w b 114 (ctC c).toArray):CtsR w (some ⟨b,0,none⟩) [c]:=fun k x hx=>by
 cases k with
 | zero =>
  obtain rfl:=Option.some.inj hx
  exact ⟨b,0,rfl,CtAt.blk h⟩
 | succ k=>simp at hx
theorem own_one {w:World} {C b:Nat} {c:Ct} (h:Blk w b 114 (ctC c).toArray) (hC:C≤b):w.ownsRow C 114 8 (.slice (some ⟨b,0,none⟩) 1 1) 1 (ctC c) :=
 ⟨rfl,Or.inr ⟨b,1,_,rfl,hC,h,Nat.le_refl _,by simp [maxLen],rfl,rfl⟩⟩
theorem noteB (w w':World) (fb:Nat) (Cs:List (List Ct)) (ds:List Nat) (h:FnB w fb Cs ds) (hw:Bl w w') (hlen:Cs.length=ds.length) (d:Nat) (la:Option Addr) (c:Nat) (cs:List Ct) (hcs:CtsR w' la cs) (hne:cs≠[]) (hTl:∀ b o,la=some ⟨b,o,none⟩→w.heap.size≤b) (hn1:Cs.length+1≤1000000) (hn2:Cs.flatten.length+cs.length≤900000000000) :
  Calls Try.prog 55 #[.pointer (some ⟨fb,0,none⟩),.int .i64 (d:Nat),.slice la cs.length c] w' fun e w2=>(∃ v,e = .returned v)∧Hid (FnB w2 fb (Cs++[cs]) (ds++[d]))∧Hid (Below fb w' w2) :=
 note_any w' fb Cs ds (h.to hw) hlen d la c cs hcs hne w.heap.size (h.at.to hw h.lt) (fun b o e=>⟨hTl b o e,by have:=hTl b o e;have:=h.lt;omega⟩) hn1 hn2
theorem ad_inj {b1 o1 b o:Nat} (h:(some ⟨b1,o1,none⟩:Option Addr)=some ⟨b,o,none⟩):b1=b∧o1=o:=by
 simp only [Option.some.injEq,Addr.mk.injEq,and_true] at h
 exact h
theorem ctS (v d:Nat):∃ (M:Nat) (T:Int),(ctC ⟨[v],d,43690⟩).toArray = #[.int .i64 (v:Nat),.int .i64 0,.int .i64 0,.int .i64 0,.int .i64 1,.int .u64 (M:Nat),.int .i64 (d:Nat),.int .u16 T]:=⟨mkM [v],43690,rfl⟩
theorem minF_next {cs:List Ct} {k:Nat} {c:Ct} {d:Nat} (h:cs[k]?=some c):minF (cs.take (k+1)) d=min (minF (cs.take k) d) c.dep:=by
 unfold minF
 rw [take_next _ _ _ h,List.foldl_append];rfl
theorem src_next (v:Nat):(List.range (v+1)).map srcT=(List.range v).map srcT++[srcT v]:=by rw [List.range_succ,List.map_append];rfl
theorem rep_next (v:Nat):List.replicate (v+1) 0=List.replicate v 0++[0]:=by rw [List.replicate_succ']
theorem src_few (v:Nat):((List.range v).map srcT).flatten.length≤v:=by
 induction v with
 | zero=>simp
 | succ v ih =>
  rw [src_next,List.flatten_append,List.length_append]
  have:[srcT v].flatten.length=1:=by
   unfold srcT;split <;> simp
  omega
structure GIn (B:Nat) (w:World) (gb:Nat) (S:GrS) (G:GrD):Prop where
 bx:BoxAt w gb S G
 at_:GrAt B w S G
 lt:gb<B
 le:B≤w.heap.size
theorem GIn.to {B:Nat} {w w':World} {gb:Nat} {S:GrS} {G:GrD} (h:GIn B w gb S G) (hb:Below B w w'):GIn B w' gb S G:=⟨h.bx.to h.lt hb,h.at_.to hb,h.lt,Nat.le_trans h.le hb.size⟩
set_option maxRecDepth 100000 in
set_option maxHeartbeats 8000000 in
theorem found_any (B:Nat) (w:World) (gb:Nat) (S:GrS) (G:GrD) (ni n:Nat) (hF:FineG G ni n) (h:GIn B w gb S G) :
  Calls Try.prog 39 #[.pointer (some ⟨gb,0,none⟩)] w fun e w'=>∃ fb:Nat,e = .returned (.pointer (some ⟨fb,0,none⟩))∧w.heap.size≤fb∧Hid (FnB w' fb (Fd hF G.ands.length).1 (Fd hF G.ands.length).2)∧Hid (Bl w w'):=by
 obtain ⟨fb,Efb⟩:=exh w.heap.size
 have HGI:Hid (∀ v:World,Below fb w v→GIn B v gb S G):=fun v hv=>h.to (hv.mono (by rw [Efb.out];exact h.le))
 have HFI:Hid (∀ v:World,Below fb w v→Bl w v):=fun v hv=>by rw [Efb.out] at hv;exact hv
 have HFG:Hid (∀ v:World,Below fb w v→Calls Try.prog 35 #[.pointer (some ⟨gb,0,none⟩)] v fun e w'=>e = .returned (.int .i64 (firstN G:Nat))∧Bl v w'):=fun v hv=>first_any v gb S G ni n hF (HGI.out v hv).bx
 obtain ⟨a2,Ea2⟩:=exh S.a2
 have HRW:Hid (∀ v:World,Below fb w v→∀ (k:Nat) (d:AndD),G.ands[k]?=some d→∃ b o,a2=some ⟨b,o,none⟩∧v.cell? ⟨b,o+k*2,none⟩=some (.int .i64 d.x)∧v.cell? ⟨b,o+k*2+1,none⟩=some (.int .i64 d.y)):=fun v hv k d hd=>by
  obtain ⟨b,o,h1,_,h3⟩:=(HGI.out v hv).at_.a.el hd
  exact ⟨b,o,Ea2.out.trans h1,h3 0 _ rfl,h3 1 _ rfl⟩
 have HF:=hidden hF
 have hfn:firstN G+G.ands.length≤60000:=by have:=hF.le;have:=hF.all;omega
 have hf1:1≤firstN G:=by unfold firstN;omega
 obtain ⟨f,Ef⟩:=exh (firstN G)
 obtain ⟨na,Ena⟩:=exh G.ands.length
 rw [←Ef.out] at HFG
 rw [←Ef.out,←Ena.out] at hfn
 rw [←Ef.out] at hf1
 go_enter Try.func39,Try.ntmps39
 go_upto_region 2 with fail
 have hbk:=Blk.new w 87 #[.slice none 0 0,.slice none 0 0,.slice none 0 0]
 have HB0:Hid (Below fb w (w.alloc (.cells #[.slice none 0 0,.slice none 0 0,.slice none 0 0] 87))):=by rw [Efb.out];exact (Below.refl _ _).alloc (Nat.le_refl _) _
 rw [←Efb.out] at hbk ⊢
 generalize w.alloc (.cells #[.slice none 0 0,.slice none 0 0,.slice none 0 0] 87)=w0 at *
 have HN0:Hid (FnB w0 fb [] []):=⟨⟨_,_,_,hbk,⟨own_nil _ _ _ _,own_nil _ _ _ _,by simp,by simp⟩,own_nil _ _ _ _,Or.inl rfl⟩,by simp⟩
 have hb1:=Blk.new w0 114 #[.int .i64 0,.int .i64 0,.int .i64 0,.int .i64 0,.int .i64 0,.int .u64 0,.int .i64 0,.int .u16 0]
 have HB1:Hid (Bl w0 (w0.alloc (.cells #[.int .i64 0,.int .i64 0,.int .i64 0,.int .i64 0,.int .i64 0,.int .u64 0,.int .i64 0,.int .u16 0] 114))):=(Below.refl _ _).alloc (Nat.le_refl _) _
 obtain ⟨b1,Eb1⟩:=exh w0.heap.size
 rw [←Eb1.out] at hb1
 obtain ⟨w1,Ew1⟩:=exh (w0.alloc (.cells #[.int .i64 0,.int .i64 0,.int .i64 0,.int .i64 0,.int .i64 0,.int .u64 0,.int .i64 0,.int .u16 0] 114))
 rw [←Ew1.out] at hb1 HB1
 rw [←ctZ] at hb1
 have NT:=hidden (noteB w0 w1 fb [] [] HN0.out HB1.out rfl 0 (some ⟨b1,0,none⟩) 1 [⟨[],0,0⟩] (CtsR.one hb1) (by simp) (fun b o e=>by rw [←(ad_inj e).1,Eb1.out];exact Nat.le_refl _) (by simp) (by simp))
 clear hbk hb1 HN0
 go_wp2_with (rw [←Ew1.out,←Eb1.out];go_at_call 55;refine NT.out.mono ?_;rintro e w2 ⟨⟨x2,rfl⟩,HN2,HB2⟩)
 have h3:fb≤w0.heap.size:=by rw [Efb.out];exact HB0.out.size
 have HB3:Hid (Below fb w w2):=HB0.out.trans ((HB1.out.mono h3).trans HB2.out)
 clear h3
 clear HB0 HB1 HB2 NT
 go_loopw [4] (fun v' w'=>∃ v:Nat,1≤v∧v≤f∧v' = .int .i64 (v:Int)∧Hid (FnB w' fb ((List.range v).map srcT) (List.replicate v 0))∧Hid (Below fb w w')) (fun v' _=>f - (intOf v').toNat)
 case atStart=>exact ⟨1,Nat.le_refl _,hf1,rfl,HN2.out,HB3.out⟩
 case round =>
  clear HN2 HB3
  obtain ⟨v,hv1,hvf,rfl,HN,HB⟩:=hrel
  have HFC:=hidden (HFG.out wr HB.out)
  have e2:IntKind.i64.wrap ((v:Int)+1)=(v:Int)+1:=wrapI _ (by omega) (by omega)
  go_wp2_with fail
  go_at_call 35
  refine HFC.out.mono ?_
  rintro e v1 ⟨rfl,hv⟩
  have HN1:=hidden (HN.out.to hv)
  have HB1:Hid (Below fb w v1):=HB.out.trans (hv.mono (Nat.le_of_lt HN.out.lt))
  clear hv HFC HN HB
  by_cases hlt:v<f
  ·have hltI:(v:Int)<(f:Int):=by omega
   have IT:=hidden (itself_any v1 v 0 (by omega))
   obtain ⟨M,T,hS⟩:=ctS v 0
   have HS:=hidden hS
   rw [hS] at IT
   clear hS
   have e0:((0:Nat):Int)=0:=rfl
   rw [e0] at IT
   go_wp2_with fail
   go_at_call 56
   refine IT.out.mono ?_
   rintro e v2 ⟨rfl,hv2⟩
   have HB2:=hidden hv2
   have hb3:=Blk.new v2 114 (ctC ⟨[v],0,43690⟩).toArray
   have HB3:Hid (Bl v2 (v2.alloc (.cells #[.int .i64 (v:Nat),.int .i64 0,.int .i64 0,.int .i64 0,.int .i64 1,.int .u64 (M:Nat),.int .i64 0,.int .u16 T] 114))):=(Below.refl _ _).alloc (Nat.le_refl _) _
   obtain ⟨b3,Eb3⟩:=exh v2.heap.size
   obtain ⟨w3,Ew3⟩:=exh (v2.alloc (.cells #[.int .i64 (v:Nat),.int .i64 0,.int .i64 0,.int .i64 0,.int .i64 1,.int .u64 (M:Nat),.int .i64 0,.int .u16 T] 114))
   rw [HS.out,e0,←Eb3.out,←Ew3.out] at hb3
   rw [←Ew3.out] at HB3
   have hb3':Blk w3 b3 114 (ctC ⟨[v],0,43690⟩).toArray:=by rw [HS.out];exact hb3
   have hsr:=src_few v
   have hl1:((List.range v).map srcT).length=v:=by simp
   have hl2:(List.replicate v 0:List Nat).length=v:=by simp
   have NT:=hidden (noteB v1 w3 fb ((List.range v).map srcT) (List.replicate v 0) HN1.out (Bl.tr HB2.out HB3.out) (by rw [hl1,hl2]) 0 (some ⟨b3,0,none⟩) 1 [⟨[v],0,43690⟩] (CtsR.one hb3') (by simp) (fun b o e=>by rw [←(ad_inj e).1,Eb3.out];exact HB2.out.size) (by rw [hl1];omega) (by rw [List.length_singleton];omega))
   rw [e0] at NT
   have HSR:Hid (srcT v=[⟨[v],0,43690⟩]):=by
    show _=_
    unfold srcT;rw [if_neg (by omega)]
   clear hv2 IT hb3 hb3' hsr hl1 hl2 HS
   go_wp2_with (rw [←Ew3.out,←Eb3.out];go_at_call 55;refine NT.out.mono ?_;rintro e w4 ⟨⟨x2,rfl⟩,HN4,HB4⟩)
   have HB5:Hid (Below fb w w4):=HB1.out.trans (((Bl.tr HB2.out HB3.out).mono (Nat.le_of_lt HN1.out.lt)).trans HB4.out)
   have HN5:Hid (FnB w4 fb ((List.range (v+1)).map srcT) (List.replicate (v+1) 0)):=by
    rw [src_next,rep_next,HSR.out];exact HN4.out
   clear HN1 HB1 HB2 HB3 HN4 HB4 NT
   go_roundw
   case measure=>simp [intOf];omega
   case rel=>exact ⟨v+1,by omega,by omega,by simp,HN5.out,HB5.out⟩
  ·have hltI:¬ (v:Int)<(f:Int):=by omega
   have hvf2:v=firstN G:=by rw [←Ef.out];omega
   have HN2:Hid (FnB v1 fb (Fd hF 0).1 (Fd hF 0).2):=by
    have:=HN1.out
    rw [hvf2] at this
    exact this
   clear HN1 hvf2
   have hbx:=(HGI.out v1 HB1.out).bx
   have c2:=hbx.c2
   rw [←Ena.out,←Ea2.out] at c2
   clear hbx
   go_wp2_with fail
   clear c2
   go_loopw [5,6,7,8,9,32] (fun _ _ _ _ _ i' w'=>∃ k:Nat,k≤na∧i' = .int .i64 (k:Int)∧Hid (FnB w' fb (Fd hF k).1 (Fd hF k).2)∧Hid (Below fb w w')) (fun _ _ _ _ _ i' _=>na - (intOf i').toNat)
   case atStart=>exact ⟨0,Nat.zero_le _,rfl,HN2.out,HB1.out⟩
   case round =>
    clear HN2 HB1
    obtain ⟨k,hk,rfl,HN,HB⟩:=hrel
    by_cases hlk:k<na
    ·have hlkI:(k:Int)<(na:Int):=by omega
     obtain ⟨d,hd⟩:=getElem_lt (show k<G.ands.length by rw [←Ena.out];exact hlk)
     obtain ⟨b,o,ea,cx,cy⟩:=HRW.out wr HB.out k d hd
     have HD:=hidden hd
     have e2:IntKind.i64.wrap ((k:Int)+1)=(k:Int)+1:=wrapI _ (by omega) (by omega)
     obtain ⟨xb,Exb⟩:=exh wr.heap.size
     have hk1:=Blk.new wr 46 #[.int .i64 0,.int .i64 0]
     have HB1:Hid (Bl wr (wr.alloc (.cells #[.int .i64 0,.int .i64 0] 46))):=(Below.refl _ _).alloc (Nat.le_refl _) _
     rw [←Exb.out] at hk1
     obtain ⟨w1,Ew1⟩:=exh (wr.alloc (.cells #[.int .i64 0,.int .i64 0] 46))
     rw [←Ew1.out] at hk1 HB1
     have q0:w1.cell? ⟨xb,0,none⟩=some (.int .i64 0):=hk1.cell (i:=0) rfl
     have q1:w1.cell? ⟨xb,1,none⟩=some (.int .i64 0):=hk1.cell (i:=1) rfl
     have f0:=hk1.frozen 0
     have f1:=hk1.frozen 1
     obtain ⟨w2,Ew2⟩:=exh ((w1.setCell ⟨xb,0,none⟩ (.int .i64 d.x)).setCell ⟨xb,1,none⟩ (.int .i64 d.y))
     have hk2:Blk w2 xb 46 #[.int .i64 d.x,.int .i64 d.y]:=by
      rw [Ew2.out]
      have h1:Blk (w1.setCell ⟨xb,0,none⟩ (.int .i64 d.x)) xb 46 #[.int .i64 d.x,.int .i64 0]:=hk1.set 0 _
      exact h1.set 1 _
     have HB2:Hid (Bl wr w2):=by
      rw [Ew2.out]
      exact HB1.out.trans (((But.set xb 0 w1 _).trans (But.set xb 1 _ _)).below (by rw [Exb.out];exact Nat.le_refl _) HB1.out.size)
     have r0:w2.cell? ⟨xb,0,none⟩=some (.int .i64 d.x):=hk2.cell (i:=0) rfl
     have r1:w2.cell? ⟨xb,1,none⟩=some (.int .i64 d.y):=hk2.cell (i:=1) rfl
     have hkl:k≤G.ands.length:=by have:=(List.getElem?_eq_some_iff.1 hd).1;omega
     obtain ⟨l1,l2⟩:=fd_len HF.out hkl
     obtain ⟨ff,fdp,fds⟩:=fd_fin HF.out hkl
     have hfl:=fd_flat HF.out hkl
     have hand:=HF.out.ands k d hd
     have hne:(Fd HF.out k).1≠[]:=fun e=>by rw [e] at l1;simp at l1;have:=Ef.out;omega
     have hne2:(Fd HF.out k).1.flatten≠[]:=fun e=>by
      have h1:=flat_at (Cs:=(Fd HF.out k).1) (v:=0) (i:=0) (c:=((Fd HF.out k).1.getD 0 []).head (ff.has 0 (by rw [l1];have:=Ef.out;omega))) (by rw [l1];have:=Ef.out;omega) (by rw [List.head_eq_getElem,List.getElem?_eq_getElem])
      rw [e] at h1;simp at h1
     have lv4:∀ cs,cs ∈ (Fd HF.out k).1→∀ c,c ∈ cs→c.lv.length≤4:=fun cs hcs c hc=>by
      obtain ⟨v,hv⟩:=List.getElem?_of_mem hcs
      have hvl:=(List.getElem?_eq_some_iff.1 hv).1
      have e:(Fd HF.out k).1.getD v []=cs:=by rw [List.getD_eq_getElem?_getD,hv];rfl
      exact (ff.each v hvl c (by rw [e];exact hc)).2.1.1
     have HN2:=hidden (HN.out.to HB2.out)
     obtain ⟨SF,hfin⟩:=HN2.out.fin hne hne2 lv4
     have hfin2:SF.fb=fb∧FinR w2 SF (Fd HF.out k).1∧FnLow w2.heap.size SF:=by
      rcases hfin with ⟨h1,h2,h3,_⟩ | h0
      ·exact ⟨h1,h2,h3⟩
      ·rw [h0] at l2;simp at l2;have:=Ef.out;omega
     obtain ⟨hsf,hfr,hlow⟩:=hfin2
     have CO:=cutsOf_any w2 SF (Fd HF.out k).1 hfr hlow ff d.x d.y (d.x / 2).toNat (d.y / 2).toNat hand.1.1 hand.2.1 (by omega) (by omega) (by rw [l1];omega) (by rw [l1];omega)
     have hnx:=fd_next HF.out hd
     obtain ⟨hcne,hcdp,hcl⟩:=fd_ne HF.out hd
     obtain ⟨cs,Ecs⟩:=exh (cutsT (KOf (Fd HF.out k).1) (decide (d.x % 2=1)) (decide (d.y % 2=1)) ((Fd HF.out k).1.getD (d.x / 2).toNat []) ((Fd HF.out k).1.getD (d.y / 2).toNat []))
     rw [←Ecs.out] at CO hnx hcne hcdp hcl
     rw [hsf] at CO
     have HCO:=hidden CO
     have HNX:=hidden hnx
     have HDP:=hidden hcdp
     obtain ⟨Cs,ECs⟩:=exh (Fd HF.out k).1
     obtain ⟨ds,Eds⟩:=exh (Fd HF.out k).2
     rw [←ECs.out] at HN2 HNX l1 hfl
     rw [←Eds.out] at HN2 HNX l2
     have HL:Hid (Cs.length=f+k∧ds.length=f+k∧Cs.flatten.length≤20000000):=by rw [Ef.out];exact ⟨l1,l2,hfl⟩
     obtain ⟨c0,hc0⟩:=getElem_lt (List.length_pos_iff.2 hcne)
     have HC0:=hidden hc0
     have HMD:Hid (minF cs c0.dep=minD cs):=by
      cases cs with
      | nil=>exact absurd rfl hcne
      | cons c t=>obtain rfl:=Option.some.inj hc0;exact rfl
     have HNE:=hidden hcne
     subst ea
     clear hd hand l1 l2 hfl ff fdp fds hne hne2 lv4 hfin hsf hfr hlow CO hnx hcne hcdp hk1 hk2 HN hkl hc0
     go_wp2_with (rw [←Ew1.out,←Exb.out])
     rw [←Ew2.out]
     go_at_call 57
     refine HCO.out.mono ?_
     rintro e w3 ⟨cv,rfl,HOC,HB3⟩
     obtain ⟨ka,kc,hcv,hcr⟩:=own_rowC HOC.out
     subst hcv
     obtain ⟨kb,ko,ek,hat0⟩:=hcr 0 c0 HC0.out
     subst ek
     have HCR:=hidden hcr
     have HCD:Hid (∀ (v:World),Bl w3 v→∀ (i:Nat) (c:Ct),cs[i]?=some c→v.cell? ⟨kb,ko+i*8+6,none⟩=some (.int .i64 (c.dep:Nat))):=fun v hv i c hc=>by
      obtain ⟨b',o',e',hat⟩:=(HCR.out.to hv) i c hc
      obtain ⟨rfl,rfl⟩:=ad_inj e'
      exact hat.c6
     have q6:w3.cell? ⟨kb,ko+6,none⟩=some (.int .i64 (c0.dep:Nat)):=by
      have:=hat0.c6
      rwa [Nat.zero_mul,Nat.add_zero] at this
     have HN3:=hidden (HN2.out.to HB3.out)
     have HBK:Hid (Below fb w w3):=HB.out.trans ((Bl.tr HB2.out HB3.out).mono (by have:=HN2.out.lt;rw [Efb.out];exact HB.out.size))
     have hd0:=HDP.out c0 (List.mem_of_getElem? HC0.out)
     obtain ⟨m,Em⟩:=exh cs.length
     rw [←Em.out] at hcl
     have hm0:(0:Int)<(m:Int):=by have:=List.length_pos_iff.2 HNE.out;have:=Em.out;omega
     rw [←Em.out]
     clear hat0 hcr HCO HB HN2 q0 q1 f0 f1 r0 r1 cx cy
     go_wp2_with fail
     clear q6
     go_loopw [8,9,46] (fun d' _ i' w'=>∃ i dd:Nat,i≤m∧dd≤60000∧i' = .int .i64 (i:Int)∧d' = .int .i64 (dd:Int)∧Hid (dd=minF (cs.take i) c0.dep)∧Hid (w'=w3)) (fun _ _ i' _=>m - (intOf i').toNat)
     case atStart=>exact ⟨0,c0.dep,Nat.zero_le _,hd0,rfl,rfl,rfl,rfl⟩
     case round =>
      obtain ⟨i,dd,hi,hdd,rfl,rfl,HDD,HW⟩:=hrel
      obtain rfl:=HW.out
      clear HW
      by_cases hli:i<m
      ·have hliI:(i:Int)<(m:Int):=by omega
       obtain ⟨c,hc⟩:=getElem_lt (show i<cs.length by rw [←Em.out];exact hli)
       have q6:=HCD.out wr (Below.refl _ _) i c hc
       have hcd:=HDP.out c (List.mem_of_getElem? hc)
       have e3:IntKind.i64.wrap ((i:Int)+1)=(i:Int)+1:=wrapI _ (by omega) (by omega)
       have HNM:Hid (min dd c.dep=minF (cs.take (i+1)) c0.dep):=by
        show _=_
        rw [minF_next hc,←HDD.out]
       have hmn:min (dd:Int) (c.dep:Int)=((min dd c.dep:Nat):Int):=by omega
       have hml:min dd c.dep≤60000:=by omega
       generalize min dd c.dep=dn at *
       clear hc HDD
       go_wp2
       go_roundw
       case measure=>simp [intOf];omega
       case rel=>exact ⟨i+1,dn,by omega,hml,by simp,rfl,HNM.out,True.intro⟩
      ·have hgi:¬ (i:Int)<(m:Int):=by omega
       have HDF:Hid (dd=minD cs):=by
        show _=_
        rw [←HMD.out,HDD.out,List.take_of_length_le (by have:=Em.out;omega)]
       obtain ⟨vv,Evv⟩:=exh (f+k)
       obtain ⟨d1,Ed1⟩:=exh (1+dd)
       have e4:IntKind.i64.wrap (1+(dd:Int))=(d1:Int):=by rw [wrapI _ (by omega) (by omega),Ed1.out];omega
       have e5:IntKind.i64.wrap ((f:Int)+(k:Int))=(vv:Int):=by rw [wrapI _ (by omega) (by omega),Evv.out];omega
       have HFC:=hidden (HFG.out wr HBK.out)
       clear HDD
       go_wp2_with fail
       go_at_call 35
       refine HFC.out.mono ?_
       rintro e v4 ⟨rfl,hv4⟩
       have HV4:=hidden hv4
       clear hv4 HFC
       have hvv:vv≤1000000:=by rw [Evv.out];omega
       have IT:=hidden (itself_any v4 vv d1 hvv)
       obtain ⟨M,T,hS⟩:=ctS vv d1
       have HS:=hidden hS
       rw [hS] at IT
       clear hS
       go_wp2_with fail
       go_at_call 56
       refine IT.out.mono ?_
       rintro e v5 ⟨rfl,hv5⟩
       have HV5:Hid (Bl wr v5):=Bl.tr HV4.out hv5
       clear hv5 IT HV4
       obtain ⟨b6,Eb6⟩:=exh v5.heap.size
       obtain ⟨v6,Ev6⟩:=exh (v5.alloc (.cells #[.int .i64 (vv:Nat),.int .i64 0,.int .i64 0,.int .i64 0,.int .i64 1,.int .u64 (M:Nat),.int .i64 (d1:Nat),.int .u16 T] 114))
       have hb6:Blk v6 b6 114 (ctC ⟨[vv],d1,43690⟩).toArray:=by rw [HS.out,Ev6.out,Eb6.out];exact Blk.new v5 _ _
       have HV6:Hid (Bl wr v6):=by rw [Ev6.out];exact Bl.tr HV5.out ((Below.refl _ _).alloc (Nat.le_refl _) _)
       have HO6:Hid (v6.ownsRow b6 114 8 (.slice (some ⟨b6,0,none⟩) 1 1) 1 (ctC ⟨[vv],d1,43690⟩)):=own_one hb6 (Nat.le_refl _)
       have hb6l:b6≤v6.heap.size:=Nat.le_of_lt hb6.lt
       have hb6w:wr.heap.size≤b6:=by rw [Eb6.out];exact HV5.out.size
       have HCR6:=hidden (HCR.out.to HV6.out)
       have HNT:Hid (∀ g7 c7 w7,w7.ownsRow b6 114 8 (.slice (some ⟨g7,0,none⟩) (1+cs.length) c7) (1+cs.length) (ctC ⟨[vv],d1,43690⟩++flC cs)→v6.grownBy w7 (Value.slice (some ⟨b6,0,none⟩) 1 1).ownBlock→Calls Try.prog 55 #[.pointer (some ⟨fb,0,none⟩),.int .i64 (d1:Nat),.slice (some ⟨g7,0,none⟩) (1+cs.length) c7] w7 fun e w2=>(∃ v,e = .returned v)∧Hid (FnB w2 fb (Fd HF.out (k+1)).1 (Fd HF.out (k+1)).2)∧Hid (Below fb w w2)):=fun g7 c7 w7 hown hgrow=>by
        have hnb:∀ k,(Value.slice (some ⟨b6,0,none⟩) 1 1).ownBlock=some k→wr.heap.size≤k:=fun k hk=>by
         have e:b6=k:=by simpa [Value.ownBlock] using hk
         omega
        have hbw:Bl wr w7:=HV6.out.trans (grow_low hgrow HV6.out.size hnb)
        have el:(⟨[vv],d1,43690⟩ :: cs:List Ct).length=1+cs.length:=by rw [List.length_cons];omega
        have ho:w7.ownsRow b6 114 8 (.slice (some ⟨g7,0,none⟩) (1+cs.length) c7) (⟨[vv],d1,43690⟩ :: cs:List Ct).length (flC (⟨[vv],d1,43690⟩ :: cs)):=by rw [el];exact hown
        have hg7:=own_newB hown g7 rfl
        obtain ⟨ka',kc',e',hr'⟩:=own_rowC ho
        rw [el] at e'
        simp only [Value.slice.injEq,true_and] at e'
        obtain ⟨rfl,rfl⟩:=e'
        have nt:=noteB wr w7 fb Cs ds HN3.out hbw (by rw [HL.out.1,HL.out.2.1]) d1 (some ⟨g7,0,none⟩) c7 (⟨[vv],d1,43690⟩ :: cs) hr' (by simp) (fun b' o' e=>by rw [←(ad_inj e).1];omega) (by rw [HL.out.1];omega) (by rw [el];have:=HL.out.2.2;have:=Em.out;omega)
        rw [el] at nt
        refine nt.mono ?_
        rintro e w8 ⟨hv,HN8,HB8⟩
        refine ⟨hv,?_,HBK.out.trans ((hbw.mono (Nat.le_of_lt HN3.out.lt)).trans HB8.out)⟩
        rw [HNX.out,←HDF.out,←Ed1.out,←Ef.out,←Evv.out]
        exact HN8.out
       have hn6:1+cs.length≤1000000000000:=by have:=Em.out;omega
       clear hb6 hb6w HV5 HS
       have tok:True:=trivial
       go_wp2_with (have _t:=tok;at_builtin;(rw [←Ev6.out,←Eb6.out];refine app_cuts _ rfl (.tmp 67) (.tmp 68) rfl b6 (.slice (some ⟨b6,0,none⟩) 1 1) 1 _ rfl HO6.out (some ⟨kb,ko,none⟩) kc cs (by rw [←Em.out];rfl) HCR6.out HNE.out hn6 hb6l ?_;intro g7 c7 w7 hown hgrow _;have HCA:=hidden (HNT.out g7 c7 w7 hown hgrow);clear tok hown hgrow HNT HN3 HV6 HO6 HCR6 HCR HCD HOC HB3;generalize 1+cs.length=L at HCA ⊢))
       go_at_call 55
       refine HCA.out.mono ?_
       rintro e w8 ⟨⟨x8,rfl⟩,HN8,HB8⟩
       clear HCA
       go_wp2_with fail
       go_roundw
       case measure=>simp [intOf];omega
       case rel=>exact ⟨k+1,by omega,by simp,HN8.out,HB8.out⟩
    ·have hge:¬ (k:Int)<(na:Int):=by omega
     have hkn:k=G.ands.length:=by rw [←Ena.out];omega
     have HNF:Hid (FnB wr fb (Fd hF G.ands.length).1 (Fd hF G.ands.length).2):=by rw [←hkn];exact HN.out
     have HBF:=hidden (HFI.out wr HB.out)
     clear HN HB hkn
     go_wp2
     go_ret
     exact ⟨fb,rfl,by rw [Efb.out];exact Nat.le_refl _,HNF.out,HBF.out⟩
end Go.Proofs.Ytlaljeobdddegaa
