import Derived.Test.YtlaljeobdddegaaJ45
import Derived.Test.YtlaljeobdddegaaJ25
import Derived.Test.YtlaljeobdddegaaJ24
import Derived.Test.YtlaljeobdddegaaJ46
namespace Go.Proofs.Ytlaljeobdddegaa
open Go.RowKit Mp
theorem mkB_same:∀ (n:Nat) {f g:Nat→Bool},(∀ i,i<n→f i=g i)→mkB n f=mkB n g
 | 0,_,_,_=>rfl
 | n+1,f,g,h=>by
  show mkB n f+_=mkB n g+_
  rw [mkB_same n (fun i hi=>h i (by omega)),h n (by omega)]
theorem spl_snoc (l:List Bool) (b:Bool):spl (l++[b])=spl l+if b then 2 ^ l.length else 0:=by
 unfold spl
 rw [List.length_append,List.length_singleton]
 show mkB l.length _+_=_
 rw [mkB_same (g:=fun i=>l.getD i false) l.length (fun i hi=>by rw [List.getD_eq_getElem?_getD,List.getElem?_append_left hi,←List.getD_eq_getElem?_getD])]
 have:(l++[b]).getD l.length false=b:=by rw [List.getD_eq_getElem?_getD,List.getElem?_concat_length];rfl
 show _+(if (l++[b]).getD l.length false=true then _ else _)=_
 rw [this]
theorem spell_spl (l:List Bool):L.spell l=spl l:=by
 have key:∀ k,k≤l.length→L.spell (l.take k)=spl (l.take k):=by
  intro k
  induction k with
  | zero=>intro _;rfl
  | succ k ih =>
   intro hk
   obtain ⟨b,hb⟩:=getElem_lt (show k<l.length by omega)
   rw [take_next _ _ _ hb,L.spell_snoc,spl_snoc,ih (by omega)]
 have:=key l.length (Nat.le_refl _)
 rwa [List.take_length] at this
theorem bitAt_nat (B k:Nat):L.bitAt (B:Int) k=B.testBit k:=by
 unfold L.bitAt
 rw [Nat.testBit_eq_decide_div_mod_eq]
 have e:(B:Int) / 2 ^ k=((B / 2 ^ k:Nat):Int):=by
  rw [Int.natCast_ediv];simp
 rw [e]
 congr 1
 apply propext
 omega
structure BaseV (F:Nat) (base:List Bool) (val:Nat→Bool):Prop where
 len:base.length=F+1
 b0:base[0]?=some false
 b1:base[1]?=some true
 src:∀ v,1≤v→v<F→base[v+1]?=some (val v)
def litW (val:Nat→Bool) (l:Nat):Bool:=val (l / 2) != decide (l % 2=1)
def dptL (F:Nat) (U:Nat→Nat) (l:Nat):Int:=if l / 2<F then ((l % 2:Nat):Int) else (U (l / 2):Int)
structure SigO (P:(Nat→Bool)→Prop) (F:Nat) (U:Nat→Nat) (tabs:List L.TbD) (l:Nat) (s:Int):Prop where
 ge:0≤s
 lt:s<(F:Int)+1+(tabs.length:Int)
 val:∀ base val,BaseV F base val→P val→L.sV (L.tabsN base tabs) s=litW val l
 dep:(L.dsN (F+1) tabs).getD s.toNat 0≤dptL F U l
theorem sV_more {base:List Bool} {tabs:List L.TbD} {F:Nat} (hb:base.length=F+1) {s:Int} (h1:s<(F:Int)+1+(tabs.length:Int)) (h0:0≤s) (d:L.TbD):L.sV (L.tabsN base (tabs++[d])) s=L.sV (L.tabsN base tabs) s:=by
 unfold L.sV
 rw [L.tabs_snoc,List.getElem?_append_left (by rw [L.tabs_length,hb];omega)]
theorem dsN_more {tabs:List L.TbD} {F:Nat} {s:Int} (h1:s<(F:Int)+1+(tabs.length:Int)) (h0:0≤s) (d:L.TbD):(L.dsN (F+1) (tabs++[d])).getD s.toNat 0=(L.dsN (F+1) tabs).getD s.toNat 0:=by
 rw [L.dsN_snoc,List.getD_eq_getElem?_getD,List.getElem?_append_left (by rw [L.dsN_len];omega),←List.getD_eq_getElem?_getD]
theorem SigO.more {P:(Nat→Bool)→Prop} {F:Nat} {U:Nat→Nat} {tabs:List L.TbD} {l:Nat} {s:Int} (h:SigO P F U tabs l s) (d:L.TbD):SigO P F U (tabs++[d]) l s :=
 ⟨h.ge,by rw [List.length_append];have:=h.lt;simp;omega,fun base val hb hp=>by rw [sV_more hb.len h.lt h.ge];exact h.val base val hb hp,by rw [dsN_more h.lt h.ge];exact h.dep⟩
structure LayI (P:(Nat→Bool)→Prop) (F n:Nat) (U:Nat→Nat) (wd:Nat→Bool) (N:NetL) (sg:Nat→Int) (Y:Nat→Prop):Prop where
 ni:2+N.ni+(N.init.length:Int)=(F:Int)+1
 s0:sg 0=0
 s1:sg 1=1
 src:∀ v,1≤v→v<F→sg (2*v)=1+(v:Int)
 sig:∀ l,l<2*n→sg l≠-1→SigO P F U N.tabs l (sg l)
 had:∀ v,Y v→(sg (2*v)≠-1∨sg (2*v+1)≠-1)∧(wd (2*v)=true→sg (2*v)≠-1)∧(wd (2*v+1)=true→sg (2*v+1)≠-1)
 ok:∀ (i:Nat) (d:L.TbD),N.tabs[i]?=some d→d.ok ((F:Int)+1+(i:Int))=true
theorem LayI.mono {P:(Nat→Bool)→Prop} {F n:Nat} {U:Nat→Nat} {wd:Nat→Bool} {N:NetL} {sg:Nat→Int} {Y Y':Nat→Prop} (h:LayI P F n U wd N sg Y) (hY:∀ v,Y' v→Y v):LayI P F n U wd N sg Y':=⟨h.ni,h.s0,h.s1,h.src,h.sig,fun v hv=>h.had v (hY v hv),h.ok⟩
theorem LayI.add {P:(Nat→Bool)→Prop} {F n:Nat} {U:Nat→Nat} {wd:Nat→Bool} {N N':NetL} {sg sg':Nat→Int} {Y:Nat→Prop} (h:LayI P F n U wd N sg Y) {l:Nat} {ins:List Int} {B:Nat} (hT:TabP N N' sg sg' l ins B) (h1:l≠0∧l≠1) (h2:l % 2=0→F≤l / 2) (hl:ins.length≤4) (hi:∀ s,s ∈ ins→0≤s∧s<(F:Int)+1+(N.tabs.length:Int)) (hB:B<2 ^ 2 ^ ins.length) (hv:∀ base val,BaseV F base val→P val→B.testBit (spl (ins.map (L.sV (L.tabsN base N.tabs))))=litW val l) (hd:L.maxD (L.dsN (F+1) N.tabs) ins+1≤dptL F U l):LayI P F n U wd N' sg' Y∧sg' l≠-1∧∀ k,sg k≠-1→sg' k≠-1:=by
 obtain ⟨d,rfl,hb,rfl,rfl⟩:=hT
 have hs:2+N.ni+(N.init.length:Int)+(N.tabs.length:Int)=(F:Int)+1+(N.tabs.length:Int):=by have:=h.ni;omega
 rw [hs]
 have up:∀ k,sg k≠-1→upd sg l ((F:Int)+1+(N.tabs.length:Int)) k≠-1:=fun k hk=>by
  unfold upd;split
  ·omega
  ·exact hk
 have upl:upd sg l ((F:Int)+1+(N.tabs.length:Int)) l≠-1:=by rw [upd_same];omega
 have hok:d.ok ((F:Int)+1+(N.tabs.length:Int))=true:=by
  unfold L.TbD.ok
  rw [Bool.and_eq_true,Bool.and_eq_true]
  refine ⟨⟨decide_eq_true hl,List.all_eq_true.2 fun s hs=>decide_eq_true (hi s hs)⟩,decide_eq_true ⟨by rw [hb];omega,?_⟩⟩
  rw [hb]
  unfold L.pw
  have e:(2:Int) ^ (2 ^ d.ins.length)=((2 ^ 2 ^ d.ins.length:Nat):Int):=by simp
  rw [e]
  exact Int.ofNat_lt.2 hB
 refine ⟨⟨h.ni,by rw [upd_ne (Ne.symm h1.1)];exact h.s0,by rw [upd_ne (Ne.symm h1.2)];exact h.s1,fun v a b=>?_,fun k hk hne=>?_,fun v hv=>?_,fun i e he=>?_⟩,upl,up⟩
 ·rw [upd_ne (by intro e;have:=h2 (by omega);omega)]
  exact h.src v a b
 ·by_cases e:k=l
  ·subst e
   rw [upd_same]
   refine ⟨by omega,by rw [List.length_append,List.length_singleton];omega,fun base val hb' hp=>?_,?_⟩
   ·rw [←hv base val hb' hp]
    unfold L.sV
    rw [L.tabs_snoc,List.getElem?_append_right (by rw [L.tabs_length,hb'.len];omega),L.tabs_length,hb'.len,show ((F:Int)+1+(N.tabs.length:Int)).toNat - (F+1+N.tabs.length)=0 by omega]
    show L.tabV d _=_
    unfold L.tabV
    rw [hb,bitAt_nat,spell_spl]
    rfl
   ·rw [L.dsN_snoc,List.getD_eq_getElem?_getD,List.getElem?_append_right (by rw [L.dsN_len];omega),L.dsN_len,show ((F:Int)+1+(N.tabs.length:Int)).toNat - (F+1+N.tabs.length)=0 by omega]
    exact hd
  ·rw [upd_ne e] at hne ⊢
   exact (h.sig k hk hne).more d
 ·obtain ⟨a,b,c⟩:=h.had v hv
  refine ⟨?_,fun h'=>up _ (b h'),fun h'=>up _ (c h')⟩
  rcases a with a | a
  ·exact Or.inl (up _ a)
  ·exact Or.inr (up _ a)
 ·by_cases hi2:i<N.tabs.length
  ·rw [List.getElem?_append_left hi2] at he
   exact h.ok i e he
  ·have:i=N.tabs.length:=by
    have:=(List.getElem?_eq_some_iff.1 he).1
    rw [List.length_append,List.length_singleton] at this
    omega
   subst this
   rw [List.getElem?_concat_length] at he
   obtain rfl:=Option.some.inj he
   exact hok
theorem maxD_most {ds:List Int} {M:Int}:∀ (l:List Int) (m:Int),m≤M→(∀ s,s ∈ l→ds.getD s.toNat 0≤M)→l.foldl (fun m s=>L.mostI m (ds.getD s.toNat 0)) m≤M
 | [],m,hm,_=>hm
 | a :: r,m,hm,h=>by
  rw [List.foldl_cons]
  refine maxD_most r _ ?_ (fun s hs=>h s (List.mem_cons_of_mem _ hs))
  unfold L.mostI
  split
  ·exact h a List.mem_cons_self
  ·exact hm
theorem LayI.source {P:(Nat→Bool)→Prop} {F n:Nat} {U:Nat→Nat} {wd:Nat→Bool} {N N':NetL} {sg sg':Nat→Int} {v:Nat} (h:LayI P F n U wd N sg fun u=>u<v) (h1:1≤v) (h2:v<F) (hFn:F≤n) (hT:(wd (2*v+1)=true∧TabP N N' sg sg' (2*v+1) [sg (2*v)] 1)∨(wd (2*v+1)=false∧N'=N∧sg'=sg)):LayI P F n U wd N' sg' fun u=>u<v+1:=by
 have hs:=h.src v h1 h2
 have hso:=h.sig (2*v) (by omega) (by rw [hs];omega)
 have close:∀ {N2:NetL} {sg2:Nat→Int},LayI P F n U wd N2 sg2 (fun u=>u<v)→(wd (2*v+1)=true→sg2 (2*v+1)≠-1)→LayI P F n U wd N2 sg2 fun u=>u<v+1:=fun {N2 sg2} h' hw=>by
  refine ⟨h'.ni,h'.s0,h'.s1,h'.src,h'.sig,fun u hu=>?_,h'.ok⟩
  by_cases e:u=v
  ·subst e
   have:=h'.src u h1 h2
   exact ⟨Or.inl (by omega),fun _=>by omega,hw⟩
  ·exact h'.had u (by omega)
 rcases hT with ⟨hw,hT⟩ | ⟨hw,rfl,rfl⟩
 ·obtain ⟨k1,k2,k3⟩:=h.add hT (by omega) (fun e=>by omega) (by simp) (fun s hs'=>by
   obtain rfl:=List.mem_singleton.1 hs'
   exact ⟨hso.ge,hso.lt⟩) (by show 1<2 ^ 2 ^ 1;decide) (fun base val hb hp=>by
    have:=hso.val base val hb hp
    rw [List.map_singleton,this]
    unfold litW
    rw [show 2*v / 2=v by omega,show (2*v+1) / 2=v by omega,show 2*v % 2=0 by omega,show (2*v+1) % 2=1 by omega]
    cases val v <;> decide) (by
    have hz:L.maxD (L.dsN (F+1) N.tabs) [sg (2*v)]≤0:=maxD_most _ _ (Int.le_refl _) (fun s hs'=>by
     obtain rfl:=List.mem_singleton.1 hs'
     have:=hso.dep
     unfold dptL at this
     rw [if_pos (by omega)] at this
     omega)
    unfold dptL
    rw [if_pos (by omega)]
    omega)
  exact close k1 (fun _=>k2)
 ·exact close h (fun e=>by rw [hw] at e;cases e)
def flK (iv:Nat→Bool) (k:Nat) (l:List Bool):List Bool:=l.mapIdx fun i x=>if i<k∧iv i=true then !x else x
theorem flK_get (iv:Nat→Bool) (k:Nat) (l:List Bool) (i:Nat):(flK iv k l)[i]?=l[i]?.map fun x=>if i<k∧iv i=true then !x else x:=by
 unfold flK;rw [List.getElem?_mapIdx]
theorem flK_zero (iv:Nat→Bool) (l:List Bool):flK iv 0 l=l:=by
 apply List.ext_getElem?
 intro i
 rw [flK_get]
 cases l[i]? with
 | none=>rfl
 | some x=>simp
theorem flK_next_pos {iv:Nat→Bool} {k:Nat} {l:List Bool} (hk:k<l.length) (h:iv k=true):flK iv k (l.set k (!l.getD k false))=flK iv (k+1) l:=by
 apply List.ext_getElem?
 intro i
 rw [flK_get,flK_get,List.getElem?_set]
 by_cases e:k=i
 ·subst e
  rw [if_pos rfl,if_pos hk,List.getD_eq_getElem?_getD,List.getElem?_eq_getElem hk]
  simp [h]
 ·rw [if_neg e]
  cases l[i]? with
  | none=>rfl
  | some x =>
   simp only [Option.map_some]
   by_cases h2:i<k
   ·simp [h2,show i<k+1 by omega]
   ·simp [h2,show ¬ i<k+1 by omega]
theorem flK_next_neg {iv:Nat→Bool} {k:Nat} {l:List Bool} (h:iv k=false):flK iv k l=flK iv (k+1) l:=by
 apply List.ext_getElem?
 intro i
 rw [flK_get,flK_get]
 cases l[i]? with
 | none=>rfl
 | some x =>
  simp only [Option.map_some]
  by_cases e:i=k
  ·subst e;simp [h]
  ·by_cases h2:i<k
   ·simp [h2,show i<k+1 by omega]
   ·simp [h2,show ¬ i<k+1 by omega]
def invS (sg:Nat→Int) (ls:List Nat) (i:Nat):Bool:=decide (sg (2*ls.getD i 0) = -1)
theorem bitG_val (sg:Nat→Int) (ls:List Nat) (b:Nat):∀ (k:Nat),k≤ls.length→∀ l:List Bool,l.length=ls.length→(bitG sg ls b k).testBit (spl l)=b.testBit (spl (flK (invS sg ls) k l))
 | 0,_,l,_=>by rw [flK_zero];rfl
 | k+1,hk,l,hl=>by
  obtain ⟨u,hu⟩:=getElem_lt (show k<ls.length by omega)
  rw [bitG_next sg ls b k hu]
  have eu:ls.getD k 0=u:=by rw [List.getD_eq_getElem?_getD,hu];rfl
  by_cases h:sg (2*u) = -1
  ·have hi:invS sg ls k=true:=by unfold invS;rw [eu];exact decide_eq_true h
   rw [if_pos h,←hl,trnT_val (by omega),←flK_next_pos (by omega) hi]
   exact bitG_val sg ls b k (by omega) _ (by rw [List.length_set];exact hl)
  ·have hi:invS sg ls k=false:=by unfold invS;rw [eu];exact decide_eq_false h
   rw [if_neg h,←flK_next_neg hi]
   exact bitG_val sg ls b k (by omega) _ hl
theorem bitG_pw (sg:Nat→Int) (ls:List Nat) (b:Nat) (hb:b<2 ^ 2 ^ ls.length):∀ k,bitG sg ls b k<2 ^ 2 ^ ls.length
 | 0=>hb
 | k+1=>by
  have ih:=bitG_pw sg ls b hb k
  unfold bitG at ih ⊢
  rw [List.range_succ,List.foldl_append,List.foldl_cons,List.foldl_nil]
  split
  ·exact mkB_lt _ _
  ·exact ih
theorem allB_bit {B n k:Nat} (hk:k<2 ^ n):(B ^^^ allB n).testBit k = !B.testBit k:=by
 rw [Nat.testBit_xor]
 unfold allB
 rw [Nat.testBit_two_pow_sub_one,decide_eq_true hk]
 cases B.testBit k <;> rfl
theorem LayI.gate {P:(Nat→Bool)→Prop} {F n:Nat} {U:Nat→Nat} {wd:Nat→Bool} {N N':NetL} {sg sg':Nat→Int} {Y:Nat→Prop} (h:LayI P F n U wd N sg Y) (hY:∀ u,u<F→Y u) {g:Nat} (hg:F≤g) (hgn:g<n) (hF1:1≤F) {ls:List Nat} {b:Nat} (hl:ls.length≤4) (hb:b<2 ^ 2 ^ ls.length) (hlu:∀ u,u ∈ ls→u<g∧(F≤u→Y u∧0<U u∧U u<U g)) (hv:∀ val,P val→b.testBit (spl (ls.map val))=val g) (hU:0<U g) (hG:GateP N N' sg sg' wd g (ls.map (insG sg)) (bitG sg ls b ls.length) (bitG sg ls b ls.length ^^^ allB ls.length)):LayI P F n U wd N' sg' fun u=>Y u∨u=g:=by
 have lit:∀ u,u ∈ ls→∃ l,l<2*n∧insG sg u=sg l∧sg l≠-1∧l / 2=u∧(l % 2=1↔sg (2*u) = -1)∧dptL F U l≤(U g:Int) - 1:=fun u hu=>by
  obtain ⟨h1,h2⟩:=hlu u hu
  have hYu:Y u:=by
   by_cases e:u<F
   ·exact hY u e
   ·exact (h2 (by omega)).1
  obtain ⟨k1,_,_⟩:=h.had u hYu
  unfold insG
  by_cases e:sg (2*u) = -1
  ·rw [if_pos e]
   refine ⟨2*u+1,by omega,rfl,?_,by omega,by omega,?_⟩
   ·rcases k1 with k | k
    ·exact absurd e k
    ·exact k
   ·have hFu:F≤u:=by
     by_cases e2:F≤u
     ·exact e2
     ·by_cases e3:u=0
      ·subst e3;have:=h.s0;rw [Nat.mul_zero] at e;omega
      ·have:=h.src u (by omega) (by omega);omega
    have:=h2 hFu
    unfold dptL
    rw [show (2*u+1) / 2=u by omega,if_neg (by omega)]
    omega
  ·rw [if_neg e]
   refine ⟨2*u,by omega,rfl,e,by omega,by constructor;omega;exact fun h=>absurd h e,?_⟩
   unfold dptL
   rw [show 2*u / 2=u by omega]
   by_cases e2:u<F
   ·rw [if_pos e2];omega
   ·rw [if_neg e2];have:=h2 (by omega);omega
 have hi:∀ s,s ∈ ls.map (insG sg)→0≤s∧s<(F:Int)+1+(N.tabs.length:Int):=fun s hs=>by
  obtain ⟨u,hu,rfl⟩:=List.mem_map.1 hs
  obtain ⟨l,h1,h2,h3,_⟩:=lit u hu
  have:=h.sig l h1 h3
  rw [h2];exact ⟨this.ge,this.lt⟩
 have hd:L.maxD (L.dsN (F+1) N.tabs) (ls.map (insG sg))+1≤(U g:Int):=by
  have:L.maxD (L.dsN (F+1) N.tabs) (ls.map (insG sg))≤(U g:Int) - 1:=maxD_most _ _ (by omega) (fun s hs=>by
   obtain ⟨u,hu,rfl⟩:=List.mem_map.1 hs
   obtain ⟨l,h1,h2,h3,_,_,h6⟩:=lit u hu
   have:=(h.sig l h1 h3).dep
   rw [h2];omega)
  omega
 have hval:∀ base val,BaseV F base val→P val→(ls.map (insG sg)).map (L.sV (L.tabsN base N.tabs))=ls.map fun u=>val u != decide (sg (2*u) = -1):=fun base val hbv hp=>by
  rw [List.map_map]
  apply List.map_congr_left
  intro u hu
  obtain ⟨l,h1,h2,h3,h4,h5,_⟩:=lit u hu
  show L.sV _ (insG sg u)=_
  rw [h2,(h.sig l h1 h3).val base val hbv hp]
  unfold litW
  rw [h4]
  congr 1
  exact decide_eq_decide.2 h5
 have hbit:∀ val,P val→(bitG sg ls b ls.length).testBit (spl (ls.map fun u=>val u != decide (sg (2*u) = -1)))=val g:=fun val hp=>by
  rw [bitG_val sg ls b ls.length (Nat.le_refl _) _ (by simp),←hv val hp]
  congr 2
  apply List.ext_getElem?
  intro i
  rw [flK_get,List.getElem?_map,List.getElem?_map]
  cases e:ls[i]? with
  | none=>rfl
  | some u =>
   have hil:=(List.getElem?_eq_some_iff.1 e).1
   simp only [Option.map_some]
   congr 1
   unfold invS
   rw [List.getD_eq_getElem?_getD,e]
   simp only [Option.getD_some]
   by_cases e2:sg (2*u) = -1
   ·simp [e2,hil]
   ·simp [e2]
 have hlen:(ls.map (insG sg)).length=ls.length:=List.length_map _
 have hpw:=bitG_pw sg ls b hb ls.length
 have hg2:(2*g) / 2=g:=by omega
 have hg3:(2*g+1) / 2=g:=by omega
 obtain ⟨N1,sg1,hA,hB⟩:=hG
 have s1:LayI P F n U wd N1 sg1 Y∧((wd (2*g) || !wd (2*g+1))=true→sg1 (2*g)≠-1)∧(∃ r,N1.tabs=N.tabs++r):=by
  rcases hA with ⟨hc,hT⟩ | ⟨hc,rfl,rfl⟩
  ·obtain ⟨k1,k2,k3⟩:=h.add hT (by omega) (fun _=>by omega) (by rw [hlen];exact hl) hi (by rw [hlen];exact hpw) (fun base val hbv hp=>by
    rw [hval base val hbv hp,hbit val hp]
    unfold litW
    rw [hg2,show 2*g % 2=0 by omega]
    simp) (by unfold dptL;rw [hg2,if_neg (by omega)];exact hd)
   obtain ⟨d,_,_,rfl,_⟩:=hT
   exact ⟨k1,fun _=>k2,[d],rfl⟩
  ·exact ⟨h,(fun e=>by rw [hc] at e;cases e),[],by simp⟩
 obtain ⟨L1,w1,r,hr⟩:=s1
 have more:∀ base,base.length=F+1→∀ s,s ∈ ls.map (insG sg)→L.sV (L.tabsN base (N.tabs++r)) s=L.sV (L.tabsN base N.tabs) s:=fun base hbl s hs=>by
  obtain ⟨q1,q2⟩:=hi s hs
  rcases hA with ⟨_,d,_,_,e,_⟩ | ⟨_,e,_⟩
  ·have e2:N1.tabs=N.tabs++[d]:=by rw [e]
   rw [←hr,e2,sV_more hbl q2 q1]
  ·rw [←hr,e]
 have moreD:∀ s,s ∈ ls.map (insG sg)→(L.dsN (F+1) (N.tabs++r)).getD s.toNat 0=(L.dsN (F+1) N.tabs).getD s.toNat 0:=fun s hs=>by
  obtain ⟨q1,q2⟩:=hi s hs
  rcases hA with ⟨_,d,_,_,e,_⟩ | ⟨_,e,_⟩
  ·have e2:N1.tabs=N.tabs++[d]:=by rw [e]
   rw [←hr,e2,dsN_more q2 q1]
  ·rw [←hr,e]
 have s2:LayI P F n U wd N' sg' Y∧(wd (2*g+1)=true→sg' (2*g+1)≠-1)∧∀ k,sg1 k≠-1→sg' k≠-1:=by
  rcases hB with ⟨hc,hT⟩ | ⟨hc,rfl,rfl⟩
  ·obtain ⟨k1,k2,k3⟩:=L1.add hT (by omega) (fun _=>by omega) (by rw [hlen];exact hl) (fun s hs=>by have:=hi s hs;rw [hr,List.length_append];omega) (by
     rw [hlen]
     refine Nat.xor_lt_two_pow hpw ?_
     unfold allB
     have:=Nat.two_pow_pos (2 ^ ls.length)
     omega) (fun base val hbv hp=>by
    rw [hr,List.map_congr_left (fun s hs=>more base hbv.len s hs),hval base val hbv hp,allB_bit (by have:=spl_lt (ls.map fun u=>val u != decide (sg (2*u) = -1));rw [List.length_map] at this;exact this),hbit val hp]
    unfold litW
    rw [hg3,show (2*g+1) % 2=1 by omega]
    simp) (by
    unfold dptL;rw [hg3,if_neg (by omega),hr]
    have:L.maxD (L.dsN (F+1) (N.tabs++r)) (ls.map (insG sg))≤(U g:Int) - 1:=maxD_most _ _ (by omega) (fun s hs=>by
     rw [moreD s hs]
     obtain ⟨u,hu,rfl⟩:=List.mem_map.1 hs
     obtain ⟨l,h1,h2,h3,_,_,h6⟩:=lit u hu
     have:=(h.sig l h1 h3).dep
     rw [h2];omega)
    omega)
   exact ⟨k1,fun _=>k2,k3⟩
  ·exact ⟨L1,(fun e=>by rw [hc] at e;cases e),fun k hk=>hk⟩
 obtain ⟨L2,w2,up⟩:=s2
 refine ⟨L2.ni,L2.s0,L2.s1,L2.src,L2.sig,fun u hu=>?_,L2.ok⟩
 rcases hu with hu | rfl
 ·exact L2.had u hu
 ·refine ⟨?_,fun e=>up _ (w1 (by rw [e];rfl)),w2⟩
  by_cases e:wd (2*u+1)=true
  ·exact Or.inr (w2 e)
  ·refine Or.inl (up _ (w1 ?_))
   have:wd (2*u+1)=false:=by simpa using e
   rw [this];simp
end Go.Proofs.Ytlaljeobdddegaa

namespace Go.Proofs.Ytlaljeobdddegaa
open Go.RowKit Mp
set_option maxRecDepth 100000 in
set_option maxHeartbeats 8000000 in
theorem atL_any (w:World) (b o eb ce n ca m v s e:Nat) (la:Option Addr) (c0:w.cell? ⟨b,o,none⟩=some (.slice la n ca)) (c1:w.cell? ⟨b,o+1,none⟩=some (.slice (some ⟨eb,0,none⟩) m ce)) (hv:v<m) (hm:m≤1000000) (ce1:w.cell? ⟨eb,v,none⟩=some (.int .i64 (e:Nat))) (cs0:v=0→s=0) (cs1:0<v→w.cell? ⟨eb,v - 1,none⟩=some (.int .i64 (s:Nat))) (hse:s≤e) (hec:e≤ca) :
  Calls Try.prog 38 #[.pointer (some ⟨b,o,none⟩),.int .i64 (v:Nat)] w fun x w'=>x = .returned (sliced la s e e 1)∧Bl w w':=by
 obtain ⟨R,ER⟩:=exh (sliced la s e e 1)
 have RS:∀ wx:World,(Instr.sliceAt 24 (.slice la n ca) (some (.int .i64 (s:Int))) (some (.int .i64 (e:Int))) (some (.int .i64 (e:Int)))).run Try.prog wx = .ok R wx:=fun wx=>by
  rw [run_sliceAt_slice wx _ _ _ _ _ int_u,run_slice_lhm wx _ _ n ca int_u .i64 .i64 .i64 s e e (by omega) (by omega) (Int.le_refl _) (by omega),int_s,ER.out]
  rfl
 have hvI:(v:Int)<(m:Int):=by omega
 rw [←ER.out]
 by_cases h0:v=0
 ·have hs0:=cs0 h0
  subst h0
  subst hs0
  have hz:¬ (0:Int)<0:=by omega
  have RS0:∀ wx:World,(Instr.sliceAt 24 (.slice la n ca) (some (.int .i64 0)) (some (.int .i64 (e:Int))) (some (.int .i64 (e:Int)))).run Try.prog wx = .ok R wx:=RS
  clear cs0 cs1 RS
  go_enter Try.func38,Try.ntmps38
  go_wp2_with fail
  refine wp_region_noPanic ?_
  refine wp_region_held_drew (S:=fun wz=>wz.cell? ⟨b,o+1,none⟩=some (.slice (some ⟨eb,0,none⟩) m ce)∧wz.cell? ⟨eb,0,none⟩=some (.int .i64 (e:Int))) (by kernel_rfl) (by exact ⟨c1,ce1⟩) (fun hHeld=>?_)
  refine tk 0 ?_
  refine tk 1 ?_
  refine tk 2 ?_
  refine tk 3 ?_
  refine tk 4 ?_
  refine tk 5 ?_
  refine tk 6 ?_
  refine tk 7 ?_
  refine tk 8 ?_
  refine wpAnyH_done (by kernel_rfl) ?_ _
  refine NoPanic.normal ?_
  go_wp2
  go_ret
  exact ⟨rfl,Below.drew (Below.refl _ _)⟩
 ·have c3:=cs1 (by omega)
  have hz:(0:Int)<(v:Int):=by omega
  have e2:IntKind.i64.wrap ((v:Int) - 1)=((v - 1:Nat):Int):=by rw [wrapI _ (by omega) (by omega)];omega
  have hz2:((v - 1:Nat):Int)<(m:Int):=by omega
  obtain ⟨v1,Ev1⟩:=exh (v - 1)
  rw [←Ev1.out] at e2 c3 hz2
  clear cs0 cs1 h0
  go_enter Try.func38,Try.ntmps38
  go_wp2_with fail
  refine wp_region_noPanic ?_
  refine wp_region_held_drew (S:=fun wz=>wz.cell? ⟨b,o+1,none⟩=some (.slice (some ⟨eb,0,none⟩) m ce)∧wz.cell? ⟨eb,v,none⟩=some (.int .i64 (e:Int))) (by kernel_rfl) (by exact ⟨c1,ce1⟩) (fun hHeld=>?_)
  refine tk 0 ?_
  refine tk 1 ?_
  refine tk 2 ?_
  refine tk 3 ?_
  refine tk 4 ?_
  refine tk 5 ?_
  refine tk 6 ?_
  refine tk 7 ?_
  refine tk 8 ?_
  refine wpAnyH_done (by kernel_rfl) ?_ _
  refine NoPanic.normal ?_
  go_wp2
  go_ret
  exact ⟨rfl,Below.drew (Below.refl _ _)⟩
theorem own_row0 {w:World} {C n:Nat} {v:Value} {l:List Nat} (h:w.ownsRow C 3 1 v n (l.map nV)):n=l.length∧((v = .slice none 0 0∧l=[])∨∃ g cap,v = .slice (some ⟨g,0,none⟩) n cap∧n≤cap∧∀ (k y:Nat),l[k]?=some y→w.cell? ⟨g,k,none⟩=some (.int .i64 (y:Nat))):=by
 have hl:n=l.length:=by have:=h.1;simp at this;omega
 refine ⟨hl,?_⟩
 rcases h.2 with ⟨rfl,h0⟩ | ⟨g,cap,cur,rfl,_,hg,_,hnc,h3,h4⟩
 ·subst h0
  exact Or.inl ⟨rfl,List.eq_nil_of_length_eq_zero hl.symm⟩
 ·refine Or.inr ⟨g,cap,rfl,?_,fun k y hy=>?_⟩
  ·have h5:=congrArg List.length h4
   simp at h5
   omega
  ·have hk:=(List.getElem?_eq_some_iff.1 hy).1
   have h5:(l.map nV)[k]?=some (nV y):=by rw [List.getElem?_map,hy];rfl
   rw [←h4,List.getElem?_take_of_lt (by omega),Array.getElem?_toList] at h5
   simp [World.cell?,hg,h5,nV]
theorem cvat_any {C:Nat} {w:World} {D:ChS} {U:Nat→Nat} {gs:List Nat} {Ls:List (List Nat)} {bs:List Nat} {gv lv ev bv:Value} (h:CvAt C w D U gs Ls bs gv lv ev bv) {i:Nat} {ls:List Nat} (hi:Ls[i]?=some ls) (hm:Ls.length≤1000000) :
  Calls Try.prog 38 #[.pointer (some ⟨D.cb,5,none⟩),.int .i64 (i:Nat)] w fun x w'=>(∃ a,x = .returned (.slice a ls.length ls.length)∧NumR w a ls)∧Bl w w':=by
 have hil:=(List.getElem?_eq_some_iff.1 hi).1
 have hd:Ls.getD i []=ls:=by rw [List.getD_eq_getElem?_getD,hi];rfl
 have hsn:=stO_next hil
 rw [hd] at hsn
 obtain ⟨_,he⟩:=own_row0 h.oe
 have en:∀ k,k<Ls.length→(endsL Ls)[k]?=some (stO Ls (k+1)):=fun k hk=>by
  unfold endsL
  rw [List.getElem?_map,List.getElem?_range hk];rfl
 rcases he with ⟨_,h0⟩ | ⟨eb,ce,rfl,_,hec⟩
 ·have:=en i hil
  rw [h0] at this;simp at this
 ·obtain ⟨_,hl⟩:=own_row0 h.ol
  obtain ⟨la,ca,elv,hcap,hnum⟩:∃ la ca,lv = .slice la Ls.flatten.length ca∧Ls.flatten.length≤ca∧∀ (k y:Nat),Ls.flatten[k]?=some y→∃ g,la=some ⟨g,0,none⟩∧w.cell? ⟨g,k,none⟩=some (.int .i64 (y:Nat)):=by
   rcases hl with ⟨rfl,h0⟩ | ⟨g,cap,rfl,h1,h2⟩
   ·exact ⟨none,0,by rw [h0];rfl,by rw [h0];exact Nat.le_refl _,fun k y hy=>by rw [h0] at hy;simp at hy⟩
   ·exact ⟨_,cap,rfl,h1,fun k y hy=>⟨g,rfl,h2 k y hy⟩⟩
  subst elv
  have c0:=h.ch.bk.cell (i:=5) rfl
  have c1:=h.ch.bk.cell (i:=6) rfl
  have:=atL_any w D.cb 5 eb ce Ls.flatten.length ca Ls.length i (stO Ls i) (stO Ls (i+1)) la c0 c1 hil hm (hec i _ (en i hil)) (fun e=>by rw [e];exact stO_zero Ls) (fun hp=>by
   have h1:=hec (i - 1) _ (en (i - 1) (by omega))
   rwa [show i - 1+1=i by omega] at h1) (by omega) (Nat.le_trans (stO_le Ls _) hcap)
  refine this.mono ?_
  rintro e w' ⟨rfl,hb⟩
  refine ⟨⟨if stO Ls (i+1)=stO Ls i then la else la.map (·.add (stO Ls i*1)),?_,fun k x hx=>?_⟩,hb⟩
  ·unfold sliced
   rw [show stO Ls (i+1) - stO Ls i=ls.length by omega]
  ·have hk:=(List.getElem?_eq_some_iff.1 hx).1
   rw [if_neg (by omega)]
   obtain ⟨g,rfl,hc⟩:=hnum _ _ (flat_at hil (by rw [hd];exact hx))
   refine ⟨g,stO Ls i,?_,hc⟩
   rw [Option.map_some,addL,Nat.zero_add,Nat.mul_one]
theorem LayI.start {P:(Nat→Bool)→Prop} (hP:∀ val,P val→val 0=false) {F n:Nat} (hF:1≤F) (U:Nat→Nat) (wd:Nat→Bool) {N:NetL} (hn:2+N.ni+(N.init.length:Int)=(F:Int)+1) (ht:N.tabs=[]):LayI P F n U wd N (sgA F F) fun u=>u<1:=by
 have h0:sgA F F 0=0:=rfl
 have h1:sgA F F 1=1:=rfl
 have hs:∀ v,1≤v→v<F→sgA F F (2*v)=1+(v:Int):=fun v a b=>by
  unfold sgA;rw [if_neg (by omega),if_pos (by omega)];omega
 have ds:∀ s:Int,(L.dsN (F+1) []).getD s.toNat 0=0:=fun s=>by
  show (List.replicate (F+1) (0:Int)).getD s.toNat 0=0
  rw [List.getD_eq_getElem?_getD,List.getElem?_replicate]
  split <;> rfl
 have dp:∀ l,(0:Int)≤dptL F U l:=fun l=>by unfold dptL;split <;> omega
 refine ⟨hn,h0,h1,hs,fun l hl hne=>?_,fun v hv=>?_,fun i d hd=>by rw [ht] at hd;simp at hd⟩
 ·rw [ht]
  by_cases h2:l<2
  ·have e:sgA F F l=(l:Int):=by unfold sgA;rw [if_pos h2]
   rw [e]
   refine ⟨by omega,by simp;omega,fun base val hb hp=>?_,by rw [ds];exact dp l⟩
   show L.sV base (l:Int)=_
   unfold L.sV litW
   rw [show l / 2=0 by omega,hP val hp,Int.toNat_natCast]
   rcases (by omega:l=0∨l=1) with rfl | rfl
   ·rw [hb.b0];rfl
   ·rw [hb.b1];rfl
  ·have e:l % 2=0∧l / 2<F:=by
    unfold sgA at hne
    rw [if_neg h2] at hne
    by_cases h3:l % 2=0∧l / 2<F∧l / 2<F
    ·exact ⟨h3.1,h3.2.1⟩
    ·rw [if_neg h3] at hne;exact absurd rfl hne
   have e2:=hs (l / 2) (by omega) e.2
   rw [show 2*(l / 2)=l by omega] at e2
   rw [e2]
   refine ⟨by omega,by simp;omega,fun base val hb hp=>?_,by rw [ds];exact dp l⟩
   show L.sV base _=_
   unfold L.sV litW
   rw [show (1+((l / 2:Nat):Int)).toNat=l / 2+1 by omega,hb.src (l / 2) (by omega) e.2,e.1]
   simp
 ·obtain rfl:v=0:=by omega
  exact ⟨Or.inl (by rw [Nat.mul_zero,h0];decide),fun _=>by rw [Nat.mul_zero,h0];decide,fun _=>by rw [Nat.mul_zero,Nat.zero_add,h1];decide⟩
end Go.Proofs.Ytlaljeobdddegaa
