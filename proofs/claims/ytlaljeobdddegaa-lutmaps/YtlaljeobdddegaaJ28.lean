import Derived.Test.YtlaljeobdddegaaJ27
import Derived.Test.YtlaljeobdddegaaRows
namespace Go.Proofs.Ytlaljeobdddegaa
namespace Mp
theorem ris_ext {a b:List Nat} (ha:Ris a) (hb:Ris b) (h:∀ x,x ∈ a↔x ∈ b):a=b:=by
 induction ha generalizing b with
 | nil =>
  cases hb with
  | nil=>rfl
  | cons _ _=>exact absurd ((h _).2 List.mem_cons_self) (by simp)
 | @cons x l hx hl ih =>
  cases hb with
  | nil=>exact absurd ((h _).1 List.mem_cons_self) (by simp)
  | @cons y m hy hm =>
   have e:x=y:=by
    rcases List.mem_cons.1 ((h x).1 List.mem_cons_self) with e | e
    ·exact e
    ·rcases List.mem_cons.1 ((h y).2 List.mem_cons_self) with e2 | e2
     ·exact e2.symm
     ·have:=hy x e;have:=hx y e2;omega
   subst e
   have:=ih hm (fun z=>by
    constructor
    ·intro hz
     rcases List.mem_cons.1 ((h z).1 (List.mem_cons_of_mem _ hz)) with e | e
     ·have:=hx z hz;omega
     ·exact e
    ·intro hz
     rcases List.mem_cons.1 ((h z).2 (List.mem_cons_of_mem _ hz)) with e | e
     ·have:=hy z hz;omega
     ·exact e)
   rw [this]
theorem Ris.erase {l:List Nat} (h:Ris l) (x:Nat):Ris (l.erase x):=by
 induction h with
 | nil=>exact .nil
 | @cons a l ha hl ih =>
  by_cases e:a=x
  ·subst e;rw [List.erase_cons_head];exact hl
  ·rw [List.erase_cons_tail (by simpa using e)]
   exact .cons (fun y hy=>ha y (List.mem_of_mem_erase hy)) ih
theorem nd_len' {L:List (List Nat)} (hL:L.Nodup) (hS:∀ S,S ∈ L→S=[]):L.length≤1:=by
 match L,hL,hS with
 | [],_,_=>exact Nat.zero_le _
 | [a],_,_=>exact Nat.le_refl _
 | a :: b :: r,hL,hS =>
  have h1:=hS a List.mem_cons_self
  have h2:=hS b (List.mem_cons_of_mem _ List.mem_cons_self)
  have:=(List.nodup_cons.1 hL).1
  exact absurd (by rw [h1,h2];exact List.mem_cons_self) this
theorem split_len (L:List (List Nat)) (p:List Nat→Bool):L.length=(L.filter p).length+(L.filter (fun x=>!p x)).length:=by
 induction L with
 | nil=>rfl
 | cons a r ih =>
  by_cases h:p a=true
  ·simp [h];omega
  ·simp only [Bool.not_eq_true] at h
   simp [h];omega
def TR (G:Gr) (S R Y:List Nat):Prop:=∀ u,u ∈ Y→Tl G (S++R) u
theorem TR.trans {G:Gr} {S M R Y:List Nat} (h:TR G S R M) (k:TR G M R Y):TR G S R Y:=fun u hu=>(k u hu).trans (fun x hx=>by
 rcases List.mem_append.1 hx with hx | hx
 ·exact h x hx
 ·exact .leaf (List.mem_append.2 (Or.inr hx)))
structure Imp (G:Gr) (R Y S:List Nat):Prop where
 nd:S.Nodup
 tell:TR G S R Y
 tight:∀ F:List Nat,F.Nodup→TR G F R S→F.length≤S.length→∀ x,x ∈ F↔x ∈ S
 bare:∀ x,x ∈ S→¬ TR G (S.erase x) R Y
open Classical in
noncomputable def bdL (G:Gr) (R:List Nat) (n:Nat) (T:Nat→Prop):List Nat:=(List.range n).filter fun x=>decide (T x∧x ∉ R∧x≠0∧¬ (G.first≤x∧T (G.a x)∧T (G.b x)))
open Classical in
theorem bdL_mem {G:Gr} {R:List Nat} {n:Nat} {T:Nat→Prop} {x:Nat}:x ∈ bdL G R n T↔x<n∧T x∧x ∉ R∧x≠0∧¬ (G.first≤x∧T (G.a x)∧T (G.b x)):=by
 unfold bdL
 rw [List.mem_filter,List.mem_range]
 exact ⟨fun h=>⟨h.1,of_decide_eq_true h.2⟩,fun h=>⟨h.1,decide_eq_true h.2⟩⟩
open Classical in
theorem bdL_nd (G:Gr) (R:List Nat) (n:Nat) (T:Nat→Prop):(bdL G R n T).Nodup:=List.nodup_range.filter _
theorem bdL_tell {G:Gr} {R:List Nat} {n:Nat} {T:Nat→Prop} (x:Nat) (hx:x<n) (h:T x):Tl G (bdL G R n T++R) x:=by
 induction x using Nat.strongRecOn with
 | _ x ih =>
  by_cases hm:x ∈ bdL G R n T
  ·exact .leaf (List.mem_append.2 (Or.inl hm))
  ·by_cases hr:x ∈ R
   ·exact .leaf (List.mem_append.2 (Or.inr hr))
   ·by_cases h0:x=0
    ·rw [h0];exact .zero
    ·by_cases hg:G.first≤x∧T (G.a x)∧T (G.b x)
     ·have h1:=G.la x hg.1
      have h2:=G.lb x hg.1
      exact .gate hg.1 (ih _ h1 (by omega) hg.2.1) (ih _ h2 (by omega) hg.2.2)
     ·exact absurd (bdL_mem.2 ⟨hx,h,hr,h0,hg⟩) hm
theorem bdL_sub {G:Gr} {R S:List Nat} {n:Nat}:∀ x,x ∈ bdL G R n (Tl G (S++R))→x ∈ S:=fun x hx=>by
 obtain ⟨_,ht,hr,h0,hg⟩:=bdL_mem.1 hx
 cases ht with
 | leaf h =>
  rcases List.mem_append.1 h with h | h
  ·exact h
  ·exact absurd h hr
 | zero=>exact absurd rfl h0
 | gate h1 h2 h3=>exact absurd ⟨h1,h2,h3⟩ hg
theorem count4 {p q r s:Nat→Bool} (l:List Nat) (h:∀ x,(if p x then 1 else 0)+(if q x then 1 else 0)≤(if r x then 1 else 0)+(if s x then 1 else 0)):(l.filter p).length+(l.filter q).length≤(l.filter r).length+(l.filter s).length:=by
 induction l with
 | nil=>exact Nat.le_refl _
 | cons a t ih =>
  have:=h a
  have e:∀ f:Nat→Bool,((a :: t).filter f).length=(if f a then 1 else 0)+(t.filter f).length:=fun f=>by
   by_cases hf:f a=true
   ·simp [hf];omega
   ·simp only [Bool.not_eq_true] at hf;simp [hf]
  rw [e,e,e,e]
  omega
open Classical in
theorem bdL_sum (G:Gr) (R:List Nat) (n:Nat) (A B:Nat→Prop):(bdL G R n (fun x=>A x∨B x)).length+(bdL G R n (fun x=>A x∧B x)).length≤(bdL G R n A).length+(bdL G R n B).length:=by
 unfold bdL
 refine count4 _ (fun x=>?_)
 simp only [decide_eq_true_eq]
 by_cases hr:x ∉ R∧x≠0
 ·have key:∀ T:Nat→Prop,(T x∧x ∉ R∧x≠0∧¬ (G.first≤x∧T (G.a x)∧T (G.b x)))↔(T x∧¬ (G.first≤x∧T (G.a x)∧T (G.b x))):=fun T=>⟨fun h=>⟨h.1,h.2.2.2⟩,fun h=>⟨h.1,hr.1,hr.2,h.2⟩⟩
  simp only [key (fun x=>A x∨B x),key (fun x=>A x∧B x),key A,key B]
  by_cases a0:A x <;> by_cases b0:B x <;> by_cases g:G.first≤x <;> by_cases a1:A (G.a x) <;> by_cases a2:A (G.b x) <;> by_cases b1:B (G.a x) <;> by_cases b2:B (G.b x) <;> simp [a0,b0,g,a1,a2,b1,b2]
 ·have key:∀ T:Nat→Prop,¬ (T x∧x ∉ R∧x≠0∧¬ (G.first≤x∧T (G.a x)∧T (G.b x))):=fun T h=>hr ⟨h.2.1,h.2.2.1⟩
  rw [if_neg (key A),if_neg (key B),if_neg (key (fun x=>A x∨B x)),if_neg (key (fun x=>A x∧B x))]
  exact Nat.le_refl _
theorem low_need {G:Gr} {S R Y:List Nat} {n:Nat} (hn:∀ u,u ∈ Y→u<n) (hd:S.Nodup) (ht:TR G S R Y) (hb:∀ x,x ∈ S→¬ TR G (S.erase x) R Y):∀ x,x ∈ S→x<n:=fun x hx=>by
 by_cases e:x<n
 ·exact e
 ·refine absurd (fun u hu=>?_) (hb x hx)
  have hu':=hn u hu
  refine ((ht u hu).low u (Nat.le_refl _)).mono (fun y hy=>?_)
  obtain ⟨h1,h2⟩:=List.mem_filter.1 hy
  have:=of_decide_eq_true h2
  rcases List.mem_append.1 h1 with h1 | h1
  ·exact List.mem_append.2 (Or.inl ((hd.mem_erase_iff).2 ⟨by omega,h1⟩))
  ·exact List.mem_append.2 (Or.inr h1)
theorem far_of {G:Gr} {R Y:List Nat} (n:Nat) (hx:∃ F:List Nat,F.Nodup∧TR G F R Y):∃ M:List Nat,M.Nodup∧TR G M R Y∧(∀ F:List Nat,F.Nodup→TR G F R Y→M.length≤F.length)∧∀ F:List Nat,F.Nodup→TR G F R M→F.length≤M.length→∀ v,v<n→Tl G (F++R) v→Tl G (M++R) v:=by
 obtain ⟨F0,hF0,hF0t⟩:=hx
 obtain ⟨m,⟨M,hM,hMY,rfl⟩,hmin⟩:=least (P:=fun m=>∃ D:List Nat,D.Nodup∧TR G D R Y∧m=D.length*(n+1)+(n - cntT G (D++R) n)) ⟨_,F0,hF0,hF0t,rfl⟩
 have hsz:∀ F:List Nat,F.Nodup→TR G F R Y→M.length≤F.length:=fun F hF hFC=>by
  have h1:=hmin _ ⟨F,hF,hFC,rfl⟩
  by_cases e:M.length≤F.length
  ·exact e
  ·have h2:(F.length+1)*(n+1)≤M.length*(n+1):=Nat.mul_le_mul (by omega) (Nat.le_refl _)
   rw [Nat.add_mul] at h2
   omega
 refine ⟨M,hM,hMY,hsz,fun F hF hFM hl=>?_⟩
 have hFY:=hFM.trans hMY
 have hlen:F.length=M.length:=Nat.le_antisymm hl (hsz F hF hFY)
 have h1:=hmin _ ⟨F,hF,hFY,rfl⟩
 rw [hlen] at h1
 have hc1:=cntT_le G (M++R) n
 have hc2:=cntT_le G (F++R) n
 exact cntT_same (G:=G) (D:=M++R) (F:=F++R) (n:=n) (fun u hu=>by
  rcases List.mem_append.1 hu with hu | hu
  ·exact hFM u hu
  ·exact .leaf (List.mem_append.2 (Or.inr hu))) (by omega)
theorem Imp.behind {G:Gr} {R Y S M:List Nat} (h:Imp G R Y S) (hM:M.Nodup) (hMY:TR G M R Y) (hmin:∀ F:List Nat,F.Nodup→TR G F R Y→M.length≤F.length) (n:Nat) (hn:∀ u,u ∈ Y→u<n):TR G S R M:=by
 have hSn:=low_need hn h.nd h.tell h.bare
 have hMn:=low_need hn hM hMY (fun x hx ht=>by
  have:=hmin _ (hM.erase x) ht
  rw [List.length_erase_of_mem hx] at this
  have:=List.length_pos_of_mem hx
  omega)
 have hs:=bdL_sum G R n (Tl G (S++R)) (Tl G (M++R))
 have h1:=nd_len (bdL_nd G R n (Tl G (S++R))) bdL_sub
 have h2:=nd_len (bdL_nd G R n (Tl G (M++R))) bdL_sub
 have h3:=hmin (bdL G R n (fun x=>Tl G (S++R) x∧Tl G (M++R) x)) (bdL_nd _ _ _ _) (fun u hu=>bdL_tell u (hn u hu) ⟨h.tell u hu,hMY u hu⟩)
 have h4:=h.tight (bdL G R n (fun x=>Tl G (S++R) x∨Tl G (M++R) x)) (bdL_nd _ _ _ _) (fun u hu=>bdL_tell u (hSn u hu) (Or.inl (.leaf (List.mem_append.2 (Or.inl hu))))) (by omega)
 intro u hu
 have h5:=bdL_tell (G:=G) (R:=R) (n:=n) (T:=fun x=>Tl G (S++R) x∨Tl G (M++R) x) u (hMn u hu) (Or.inr (.leaf (List.mem_append.2 (Or.inl hu))))
 refine h5.mono (fun x hx=>?_)
 rcases List.mem_append.1 hx with hx | hx
 ·exact List.mem_append.2 (Or.inl ((h4 x).1 hx))
 ·exact List.mem_append.2 (Or.inr hx)
theorem bound_of (Y:List Nat):∃ n,∀ u,u ∈ Y→u<n:=by
 induction Y with
 | nil=>exact ⟨0,fun u hu=>by cases hu⟩
 | cons a t ih =>
  obtain ⟨n,hn⟩:=ih
  refine ⟨max n (a+1),fun u hu=>?_⟩
  rcases List.mem_cons.1 hu with rfl | hu
  ·omega
  ·have:=hn u hu;omega
theorem few (G:Gr) (t:Nat):∀ (k lam:Nat) (R Y:List Nat),2*k≤lam+t→(∀ F:List Nat,F.Nodup→TR G F R Y→lam≤F.length)→∀ L:List (List Nat),L.Nodup→(∀ S,S ∈ L→Ris S∧S.length≤k∧Imp G R Y S)→L.length≤2 ^ t:=by
 induction t with
 | zero =>
  intro k lam R Y hk hl L hL h
  have hS:∀ S,S ∈ L→S=[]:=fun S hS=>by
   obtain ⟨h1,h2,h3⟩:=h S hS
   have:=hl S h3.nd h3.tell
   exact List.eq_nil_of_length_eq_zero (by omega)
  exact nd_len' hL hS
 | succ t ih =>
  intro k lam R Y hk hl L hL h
  by_cases hex:∃ S,S ∈ L
  rotate_left
  ·have:L=[]:=List.eq_nil_iff_forall_not_mem.2 (fun S hS=>hex ⟨S,hS⟩)
   rw [this];exact Nat.zero_le _
  obtain ⟨S0,hS0⟩:=hex
  obtain ⟨n,hn⟩:=bound_of Y
  obtain ⟨M,hM,hMY,hmin,hfar⟩:=far_of (G:=G) (R:=R) (Y:=Y) n ⟨S0,(h S0 hS0).2.2.nd,(h S0 hS0).2.2.tell⟩
  have hlM:=hl M hM hMY
  have hMn:=low_need hn hM hMY (fun x hx ht=>by
   have:=hmin _ (hM.erase x) ht
   rw [List.length_erase_of_mem hx] at this
   have:=List.length_pos_of_mem hx
   omega)
  cases M with
  | nil =>
   have hS:∀ S,S ∈ L→S=[]:=fun S hS=>by
    obtain ⟨h1,h2,h3⟩:=h S hS
    cases S with
    | nil=>rfl
    | cons x r=>exact absurd (fun u hu=>(hMY u hu).mono (fun y hy=>List.mem_append.2 (Or.inr hy))) (h3.bare x List.mem_cons_self)
   have:=nd_len' hL hS
   have h2:1≤2 ^ (t+1):=Nat.one_le_two_pow
   omega
  | cons m M' =>
   have hmn:=hMn m List.mem_cons_self
   have hk1:M'.length+1≤k:=by
    have h1:=hmin S0 (h S0 hS0).2.2.nd (h S0 hS0).2.2.tell
    have:=(h S0 hS0).2.1
    rw [List.length_cons] at h1
    omega
   rw [List.length_cons] at hlM
   have hma:L.length=(L.filter (fun S=>decide (m ∈ S))).length+(L.filter (fun S=>!decide (m ∈ S))).length:=split_len L _
   have hA:(L.filter (fun S=>decide (m ∈ S))).length≤2 ^ t:=by
    have:=ih (k - 1) M'.length (m :: R) Y (by omega) (fun F hF hFt=>by
     by_cases hmF:m ∈ F
     ·have:=hmin F hF (fun u hu=>(hFt u hu).mono (fun y hy=>by
       rcases List.mem_append.1 hy with hy | hy
       ·exact List.mem_append.2 (Or.inl hy)
       ·rcases List.mem_cons.1 hy with rfl | hy
        ·exact List.mem_append.2 (Or.inl hmF)
        ·exact List.mem_append.2 (Or.inr hy)))
      rw [List.length_cons] at this
      omega
     ·have:=hmin (m :: F) (List.nodup_cons.2 ⟨hmF,hF⟩) (fun u hu=>(hFt u hu).mono (fun y hy=>by
       rcases List.mem_append.1 hy with hy | hy
       ·exact List.mem_append.2 (Or.inl (List.mem_cons_of_mem _ hy))
       ·rcases List.mem_cons.1 hy with rfl | hy
        ·exact List.mem_append.2 (Or.inl List.mem_cons_self)
        ·exact List.mem_append.2 (Or.inr hy)))
      rw [List.length_cons,List.length_cons] at this
      omega) ((L.filter (fun S=>decide (m ∈ S))).map (fun S=>S.erase m)) (by
     unfold List.Nodup
     rw [List.pairwise_map]
     refine List.Pairwise.imp_of_mem (fun {a b} ha hb hne e=>hne ?_) (hL.filter _)
     obtain ⟨ha1,ha2⟩:=List.mem_filter.1 ha
     obtain ⟨hb1,hb2⟩:=List.mem_filter.1 hb
     have ha2:=of_decide_eq_true ha2
     have hb2:=of_decide_eq_true hb2
     have hra:=(h a ha1).1
     have hrb:=(h b hb1).1
     refine ris_ext hra hrb (fun x=>?_)
     by_cases hx:x=m
     ·rw [hx];exact ⟨fun _=>hb2,fun _=>ha2⟩
     ·have h1:x ∈ a.erase m↔x ∈ a:=List.mem_erase_of_ne hx
      have h2:x ∈ b.erase m↔x ∈ b:=List.mem_erase_of_ne hx
      rw [←h1,←h2,e]) (fun S' hS'=>by
     obtain ⟨S,hS,rfl⟩:=List.mem_map.1 hS'
     obtain ⟨hS1,hS2⟩:=List.mem_filter.1 hS
     have hS2:=of_decide_eq_true hS2
     obtain ⟨h1,h2,h3⟩:=h S hS1
     have hlen:=List.length_erase_of_mem hS2
     have hpos:=List.length_pos_of_mem hS2
     have back:∀ y,y ∈ S++R→y ∈ S.erase m++m :: R:=fun y hy=>by
      rcases List.mem_append.1 hy with hy | hy
      ·by_cases e:y=m
       ·rw [e];exact List.mem_append.2 (Or.inr List.mem_cons_self)
       ·exact List.mem_append.2 (Or.inl ((h3.nd.mem_erase_iff).2 ⟨e,hy⟩))
      ·exact List.mem_append.2 (Or.inr (List.mem_cons_of_mem _ hy))
     refine ⟨h1.erase m,by omega,h3.nd.erase m,fun u hu=>(h3.tell u hu).mono back,fun F hF hFt hFl=>?_,fun x hx ht=>?_⟩
     ·have hmF:m ∉ F:=fun hmF=>by
       have h4:=h3.tight F hF (fun u hu=>by
        by_cases e:u=m
        ·rw [e];exact .leaf (List.mem_append.2 (Or.inl hmF))
        ·refine (hFt u ((h3.nd.mem_erase_iff).2 ⟨e,hu⟩)).mono (fun y hy=>?_)
         rcases List.mem_append.1 hy with hy | hy
         ·exact List.mem_append.2 (Or.inl hy)
         ·rcases List.mem_cons.1 hy with rfl | hy
          ·exact List.mem_append.2 (Or.inl hmF)
          ·exact List.mem_append.2 (Or.inr hy)) (by omega)
       have:=nd_len h3.nd (fun x hx=>(h4 x).2 hx)
       omega
      have h4:=h3.tight (m :: F) (List.nodup_cons.2 ⟨hmF,hF⟩) (fun u hu=>by
        by_cases e:u=m
        ·rw [e];exact .leaf (List.mem_append.2 (Or.inl List.mem_cons_self))
        ·refine (hFt u ((h3.nd.mem_erase_iff).2 ⟨e,hu⟩)).mono (fun y hy=>?_)
         rcases List.mem_append.1 hy with hy | hy
         ·exact List.mem_append.2 (Or.inl (List.mem_cons_of_mem _ hy))
         ·rcases List.mem_cons.1 hy with rfl | hy
          ·exact List.mem_append.2 (Or.inl List.mem_cons_self)
          ·exact List.mem_append.2 (Or.inr hy)) (by rw [List.length_cons];omega)
      intro x
      rw [h3.nd.mem_erase_iff,←h4 x]
      constructor
      ·intro hx
       exact ⟨fun e=>hmF (e ▸ hx),List.mem_cons_of_mem _ hx⟩
      ·rintro ⟨e,hx⟩
       rcases List.mem_cons.1 hx with e2 | hx
       ·exact absurd e2 e
       ·exact hx
     ·obtain ⟨hxm,hxS⟩:=(h3.nd.mem_erase_iff).1 hx
      refine h3.bare x hxS (fun u hu=>(ht u hu).mono (fun y hy=>?_))
      rcases List.mem_append.1 hy with hy | hy
      ·obtain ⟨h5,h6⟩:=((h3.nd.erase m).mem_erase_iff).1 hy
       exact List.mem_append.2 (Or.inl ((h3.nd.mem_erase_iff).2 ⟨h5,List.mem_of_mem_erase h6⟩))
      ·rcases List.mem_cons.1 hy with rfl | hy
       ·exact List.mem_append.2 (Or.inl ((h3.nd.mem_erase_iff).2 ⟨fun e=>hxm e.symm,hS2⟩))
       ·exact List.mem_append.2 (Or.inr hy))
    rwa [List.length_map] at this
   have hB:(L.filter (fun S=>!decide (m ∈ S))).length≤2 ^ t:=by
    by_cases hexB:∃ S,S ∈ L.filter (fun S=>!decide (m ∈ S))
    rotate_left
    ·have:L.filter (fun S=>!decide (m ∈ S))=[]:=List.eq_nil_iff_forall_not_mem.2 (fun S hS=>hexB ⟨S,hS⟩)
     rw [this];exact Nat.zero_le _
    have hmR:m ∉ R:=fun hr=>by
     have:=hmin M' (List.nodup_cons.1 hM).2 (fun u hu=>(hMY u hu).mono (fun y hy=>by
      rcases List.mem_append.1 hy with hy | hy
      ·rcases List.mem_cons.1 hy with rfl | hy
       ·exact List.mem_append.2 (Or.inr hr)
       ·exact List.mem_append.2 (Or.inl hy)
      ·exact List.mem_append.2 (Or.inr hy)))
     rw [List.length_cons] at this
     omega
    have hm0:m≠0:=fun e=>by
     have:=hmin M' (List.nodup_cons.1 hM).2 (fun u hu=>(hMY u hu).trans (fun y hy=>by
      rcases List.mem_append.1 hy with hy | hy
      ·rcases List.mem_cons.1 hy with rfl | hy
       ·rw [e];exact .zero
       ·exact .leaf (List.mem_append.2 (Or.inl hy))
      ·exact .leaf (List.mem_append.2 (Or.inr hy))))
     rw [List.length_cons] at this
     omega
    have hgate:∀ S,S ∈ L.filter (fun S=>!decide (m ∈ S))→G.first≤m∧Tl G (S++R) (G.a m)∧Tl G (S++R) (G.b m):=fun S hS=>by
     obtain ⟨hS1,hS2⟩:=List.mem_filter.1 hS
     have hS2:m ∉ S:=by simpa using hS2
     have ht:=(h S hS1).2.2.behind hM hMY hmin n hn m List.mem_cons_self
     cases ht with
     | leaf h' =>
      rcases List.mem_append.1 h' with h' | h'
      ·exact absurd h' hS2
      ·exact absurd h' hmR
     | zero=>exact absurd rfl hm0
     | gate h1 h2 h3=>exact ⟨h1,h2,h3⟩
    obtain ⟨SB,hSB⟩:=hexB
    have hg:=(hgate SB hSB).1
    have hla:=G.la m hg
    have hlb:=G.lb m hg
    refine ih k (M'.length+2) R (G.a m :: G.b m :: M') (by omega) (fun F hF hFt=>?_) _ (hL.filter _) (fun S hS=>?_)
    ·by_cases e:M'.length+2≤F.length
     ·exact e
     ·have hFM:TR G F R (m :: M'):=fun u hu=>by
       rcases List.mem_cons.1 hu with rfl | hu
       ·exact .gate hg (hFt _ List.mem_cons_self) (hFt _ (List.mem_cons_of_mem _ List.mem_cons_self))
       ·exact hFt _ (List.mem_cons_of_mem _ (List.mem_cons_of_mem _ hu))
      have hf:=hfar F hF hFM (by rw [List.length_cons];omega)
      have cut:∀ u,u<m→Tl G (m :: M'++R) u→Tl G (M'++R) u:=fun u hu ht=>(ht.low u (Nat.le_refl _)).mono (fun y hy=>by
       obtain ⟨h1,h2⟩:=List.mem_filter.1 hy
       have:=of_decide_eq_true h2
       rcases List.mem_append.1 h1 with h1 | h1
       ·rcases List.mem_cons.1 h1 with rfl | h1
        ·omega
        ·exact List.mem_append.2 (Or.inl h1)
       ·exact List.mem_append.2 (Or.inr h1))
      have ha:=cut _ hla (hf _ (by omega) (hFt _ List.mem_cons_self))
      have hb:=cut _ hlb (hf _ (by omega) (hFt _ (List.mem_cons_of_mem _ List.mem_cons_self)))
      have:=hmin M' (List.nodup_cons.1 hM).2 (fun u hu=>(hMY u hu).trans (fun y hy=>by
       rcases List.mem_append.1 hy with hy | hy
       ·rcases List.mem_cons.1 hy with rfl | hy
        ·exact .gate hg ha hb
        ·exact .leaf (List.mem_append.2 (Or.inl hy))
       ·exact .leaf (List.mem_append.2 (Or.inr hy))))
      rw [List.length_cons] at this
      omega
    ·obtain ⟨_,ga,gb⟩:=hgate S hS
     obtain ⟨hS1,hS2⟩:=List.mem_filter.1 hS
     obtain ⟨h1,h2,h3⟩:=h S hS1
     have hbh:=h3.behind hM hMY hmin n hn
     refine ⟨h1,h2,h3.nd,fun u hu=>?_,h3.tight,fun x hx ht=>?_⟩
     ·rcases List.mem_cons.1 hu with rfl | hu
      ·exact ga
      ·rcases List.mem_cons.1 hu with rfl | hu
       ·exact gb
       ·exact hbh u (List.mem_cons_of_mem _ hu)
     ·refine h3.bare x hx (TR.trans (M:=m :: M') (fun u hu=>?_) hMY)
      rcases List.mem_cons.1 hu with rfl | hu
      ·exact .gate hg (ht _ List.mem_cons_self) (ht _ (List.mem_cons_of_mem _ List.mem_cons_self))
      ·exact ht _ (List.mem_cons_of_mem _ (List.mem_cons_of_mem _ hu))
   rw [hma,Nat.pow_succ]
   omega
end Mp
end Go.Proofs.Ytlaljeobdddegaa

namespace Go.Proofs.Ytlaljeobdddegaa
namespace Mp
theorem tell_down {G:Gr} {E a:List Nat} {c u:Nat} (he:Tl G E u) (ha:Tl G a u) (hn:¬ Tl G (a.erase c) u):Tl G E c∨∃ d,d ∈ E∧Tl G a d∧¬ Tl G (a.erase c) d∧d≠c:=by
 induction he with
 | @leaf u h =>
  by_cases e:u=c
  ·rw [←e];exact Or.inl (.leaf h)
  ·exact Or.inr ⟨u,h,ha,hn,e⟩
 | zero=>exact absurd .zero hn
 | @gate u hg h1 h2 ih1 ih2 =>
  cases ha with
  | leaf h =>
   by_cases e:u=c
   ·rw [←e];exact Or.inl (.gate hg h1 h2)
   ·exact absurd (.leaf ((List.mem_erase_of_ne e).2 h)) hn
  | zero=>exact absurd .zero hn
  | gate _ k1 k2 =>
   by_cases hc:Tl G (a.erase c) (G.a u)
   ·exact ih2 k2 (fun hc2=>hn (.gate hg hc hc2))
   ·exact ih1 k1 hc
theorem min_bare {G:Gr} {D C a b:List Nat} {p q:Nat} (hD:D.Nodup) (hDC:TlAll G D C) (hmin:∀ x,x ∈ D→¬ TlAll G (D.erase x) C) (hC:∀ x,x ∈ C↔x ∈ a∨x ∈ b) (ha:Tl G a p) (hb:Tl G b q) (ba:a=[p]∨∀ x,x ∈ a→¬ Tl G (a.erase x) p) (bb:b=[q]∨∀ x,x ∈ b→¬ Tl G (b.erase x) q):∀ x,x ∈ D→¬ (Tl G (D.erase x) p∧Tl G (D.erase x) q):=by
 intro x hx ⟨hp,hq⟩
 have key:∀ (a:List Nat) (p:Nat),(∀ y,y ∈ a→y ∈ C)→Tl G a p→(a=[p]∨∀ x,x ∈ a→¬ Tl G (a.erase x) p)→Tl G (D.erase x) p→∀ c,c ∈ a→Tl G (D.erase x) c:=by
  intro a p hac ha ba hp c hc
  rcases ba with rfl | ba
  ·rw [List.mem_singleton.1 hc];exact hp
  ·rcases tell_down hp ha (ba c hc) with h | ⟨d,hd,h1,h2,h3⟩
   ·exact h
   ·have hdD:=List.mem_of_mem_erase hd
    have hda:d ∉ a:=fun h=>h2 (.leaf ((List.mem_erase_of_ne h3).2 h))
    have hlow:∀ u,u<d→Tl G D u→Tl G (D.erase d) u:=fun u hu ht=>(ht.low u (Nat.le_refl _)).mono (fun y hy=>by
     obtain ⟨h4,h5⟩:=List.mem_filter.1 hy
     have:=of_decide_eq_true h5
     exact (hD.mem_erase_iff).2 ⟨by omega,h4⟩)
    have hdt:Tl G (D.erase d) d:=(h1.low d (Nat.le_refl _)).trans (fun y hy=>by
     obtain ⟨h4,h5⟩:=List.mem_filter.1 hy
     have h6:=of_decide_eq_true h5
     have hne:y≠d:=fun e=>hda (e ▸ h4)
     exact hlow y (by omega) (hDC y (hac y h4)))
    refine absurd (fun u hu=>(hDC u hu).trans (fun y hy=>?_)) (hmin d hdD)
    by_cases e:y=d
    ·rw [e];exact hdt
    ·exact .leaf ((hD.mem_erase_iff).2 ⟨e,hy⟩)
 refine hmin x hx (fun c hc=>?_)
 rcases (hC c).1 hc with h | h
 ·exact key a p (fun y hy=>(hC y).2 (Or.inl hy)) ha ba hp c h
 ·exact key b q (fun y hy=>(hC y).2 (Or.inr hy)) hb bb hq c h
def NoB (K:Nat→List (List Nat)) (x y:List Nat):Prop:=beatsB K x y=false∧beatsB K y x=false
theorem keepS_no {K:Nat→List (List Nat)} {kept:List (List Nat)} {c:List Nat} (h:kept.Pairwise (NoB K)):(keepS K kept c).Pairwise (NoB K):=by
 unfold keepS
 by_cases hb:kept.any (fun k=>beatsB K k c)=true
 ·rw [if_pos hb];exact h
 ·rw [if_neg hb,List.pairwise_append]
  refine ⟨h.filter _,List.pairwise_singleton _ _,fun x hx y hy=>?_⟩
  obtain ⟨hx1,hx2⟩:=List.mem_filter.1 hx
  rw [List.mem_singleton.1 hy]
  refine ⟨?_,by simpa using hx2⟩
  cases e:beatsB K x c with
  | false=>rfl
  | true=>exact absurd (List.any_eq_true.2 ⟨x,hx1,e⟩) hb
theorem keepA_no {K:Nat→List (List Nat)}:∀ (cs kept:List (List Nat)),kept.Pairwise (NoB K)→(cs.foldl (keepS K) kept).Pairwise (NoB K)
 | [],_,h=>h
 | _ :: r,_,h=>keepA_no r _ (keepS_no h)
theorem no_all {K:Nat→List (List Nat)} {l:List (List Nat)} (h:l.Pairwise (NoB K)):∀ x,x ∈ l→∀ y,y ∈ l→x≠y→NoB K x y:=by
 induction h with
 | nil=>intro x hx;cases hx
 | @cons a l ha hl ih =>
  intro x hx y hy hne
  rcases List.mem_cons.1 hx with e | hx'
  ·rcases List.mem_cons.1 hy with e2 | hy'
   ·exact absurd (e.trans e2.symm) hne
   ·rw [e];exact ha y hy'
  ·rcases List.mem_cons.1 hy with e2 | hy'
   ·rw [e2];exact ⟨(ha x hx').2,(ha x hx').1⟩
   ·exact ih x hx' y hy' hne
theorem wit_of {a b:List Nat} (h:∀ x,x ∈ a→x ∈ b):wit a b=true:=List.all_eq_true.2 (fun x hx=>by simpa using h x hx)
theorem tight_beats {G:Gr} {N:Nat} {K:Nat→List (List Nat)} (h:Kept G N K) {k c:List Nat} (hk:k.Nodup) (h4:k.length≤4) (ht:Tight G k) (hl:k.length≤c.length) (hc:∀ u,u ∈ c→u<N) (htl:TlAll G k c):beatsB K k c=true:=by
 unfold beatsB
 rw [Bool.and_eq_true]
 refine ⟨decide_eq_true hl,List.all_eq_true.2 (fun u hu=>?_)⟩
 obtain ⟨k',hk',hs,hb⟩:=bare_of hk (htl u hu)
 have:=nd_len hk' hs
 obtain ⟨kk,hkk,he⟩:=h.tight u (hc u hu) k' hk' (by omega) (ht.sub hk hk' hs) hb
 exact List.any_eq_true.2 ⟨kk,hkk,wit_of (fun x hx=>hs x ((he x).1 hx))⟩
theorem CutsP.imp {G:Gr} {N:Nat} {K:Nat→List (List Nat)} {dp:Nat→Nat} (h:CutsP G N K dp) (v:Nat) (hv:v<N) (hg:G.first≤v):∀ c,c ∈ keepA K (cands (K (G.a v)) (K (G.b v)))→Imp G [] [G.a v,G.b v] c:=by
 induction v using Nat.strongRecOn with
 | _ v ih =>
  have hK:=h.kept
  intro c hc
  have hla:=G.la v hg
  have hlb:=G.lb v hg
  have hin:∀ p,p<v→∀ x,x ∈ K p→x=[p]∨∀ y,y ∈ x→¬ Tl G (x.erase y) p:=fun p hp x hx=>by
   by_cases h0:p=0
   ·subst h0
    rw [h.zero] at hx
    rw [List.mem_singleton.1 hx]
    exact Or.inr (fun y hy=>by cases hy)
   ·by_cases hpg:p<G.first
    ·rw [h.src p (by omega) hpg] at hx
     exact Or.inl (List.mem_singleton.1 hx)
    ·have hx0:=hx
     rw [h.gate p (by omega) (by omega)] at hx
     rcases List.mem_cons.1 hx with e | hx
     ·exact Or.inl e
     ·have hi:=ih p hp (by omega) (by omega) x hx
      refine Or.inr (fun y hy ht=>hi.bare y hy (fun u hu=>?_))
      rw [List.append_nil]
      cases ht with
      | leaf hm=>have:=((h.sound p (by omega)).2.2 x (by omega) hx).2.2 p (List.mem_of_mem_erase hm);omega
      | zero=>exact absurd rfl h0
      | gate _ k1 k2 =>
       rcases List.mem_cons.1 hu with rfl | hu
       ·exact k1
       ·rw [List.mem_singleton.1 hu];exact k2
  have hc1:c ∈ cands (K (G.a v)) (K (G.b v)):=by
   rcases keepA_mem _ [] hc with h1 | h1
   ·cases h1
   ·exact h1
  obtain ⟨x,y,hx,hy,rfl,hl4⟩:=cands_mem.1 hc1
  obtain ⟨x1,x2,x3,x4⟩:=(h.sound _ (show G.a v<N by omega)).1 x hx
  obtain ⟨y1,y2,y3,y4⟩:=(h.sound _ (show G.b v<N by omega)).1 y hy
  have hr:=joinL_ris x1 y1
  have hcv:∀ u,u ∈ joinL x y→u<v:=fun u hu=>by
   rcases (joinL_mem _ _ _).1 hu with hu | hu
   ·have:=x4 u hu;omega
   ·have:=y4 u hu;omega
  obtain ⟨D,hD,hDC,hDl,hDt,hDn,hDe⟩:=tight_of (G:=G) hr.nodup v hcv
  have hbare:=min_bare hD hDC hDe (joinL_mem x y) x3 y3 (hin _ hla x hx) (hin _ hlb y hy)
  have ta:Tl G D (G.a v):=(x3.mono (fun u hu=>(joinL_mem x y u).2 (Or.inl hu))).trans hDC
  have tb:Tl G D (G.b v):=(y3.mono (fun u hu=>(joinL_mem x y u).2 (Or.inr hu))).trans hDC
  have hB:Bare G D v:=⟨.gate hg ta tb,fun z hz ht=>by
   cases ht with
   | leaf hm=>have:=hDn v (List.mem_of_mem_erase hm);omega
   | zero=>have:=G.pos;omega
   | gate _ k1 k2=>exact hbare z hz ⟨k1,k2⟩⟩
  obtain ⟨k,hk,hke⟩:=hK.tight v hv D hD (by omega) hDt hB
  have hkr:=((h.sound v hv).1 k hk)
  have hkA:k ∈ keepA K (cands (K (G.a v)) (K (G.b v))):=by
   rw [h.gate v hv hg] at hk
   rcases List.mem_cons.1 hk with e | hk
   ·rw [e] at hke
    have:=hDn v ((hke v).1 (List.mem_singleton.2 rfl))
    omega
   ·exact hk
  have hkl:k.length=D.length:=Nat.le_antisymm (nd_len hkr.1.nodup (fun z hz=>(hke z).1 hz)) (nd_len hD (fun z hz=>(hke z).2 hz))
  have hkt:Tight G k:=hDt.sub hD hkr.1.nodup (fun z hz=>(hke z).1 hz)
  have hkc:TlAll G k (joinL x y):=fun u hu=>(hDC u hu).mono (fun z hz=>(hke z).2 hz)
  have hbt:=tight_beats hK (c:=joinL x y) hkr.1.nodup hkr.2.1 hkt (by omega) (fun u hu=>by have:=hcv u hu;omega) hkc
  have hno:=no_all (keepA_no (K:=K) (cands (K (G.a v)) (K (G.b v))) [] List.Pairwise.nil) k hkA (joinL x y) hc
  have he:k=joinL x y:=by
   by_cases e:k=joinL x y
   ·exact e
   ·have:=(hno e).1
    rw [hbt] at this
    cases this
  rw [←he]
  refine ⟨hkr.1.nodup,fun u hu=>?_,fun F hF hFt hFl=>hkt F hF (fun u hu=>by have:=hFt u hu;rwa [List.append_nil] at this) hFl,fun z hz ht=>?_⟩
  ·rw [List.append_nil]
   rcases List.mem_cons.1 hu with rfl | hu
   ·exact ta.mono (fun z hz=>(hke z).2 hz)
   ·rw [List.mem_singleton.1 hu];exact tb.mono (fun z hz=>(hke z).2 hz)
  ·have mv:∀ u,Tl G (k.erase z) u→Tl G (D.erase z) u:=fun u hu=>hu.mono (fun s hs=>by
    obtain ⟨h1,h2⟩:=(hkr.1.nodup.mem_erase_iff).1 hs
    exact (hD.mem_erase_iff).2 ⟨h1,(hke s).1 h2⟩)
   have k1:=ht (G.a v) List.mem_cons_self
   have k2:=ht (G.b v) (List.mem_cons_of_mem _ (List.mem_singleton.2 rfl))
   rw [List.append_nil] at k1 k2
   exact hbare z ((hke z).1 hz) ⟨mv _ k1,mv _ k2⟩
theorem beats_self {K:Nat→List (List Nat)} {c:List Nat} (h:∀ u,u ∈ c→[u] ∈ K u):beatsB K c c=true:=by
 unfold beatsB
 rw [Bool.and_eq_true]
 refine ⟨decide_eq_true (Nat.le_refl _),List.all_eq_true.2 (fun u hu=>List.any_eq_true.2 ⟨[u],h u hu,wit_of (fun x hx=>by rw [List.mem_singleton.1 hx];exact hu)⟩)⟩
theorem CutsP.few {G:Gr} {N:Nat} {K:Nat→List (List Nat)} {dp:Nat→Nat} (h:CutsP G N K dp) (v:Nat) (hv:v<N) (hg:G.first≤v):(keepA K (cands (K (G.a v)) (K (G.b v)))).length≤256:=by
 have hall:∀ c,c ∈ keepA K (cands (K (G.a v)) (K (G.b v)))→Ris c∧c.length≤4∧∀ u,u ∈ c→u<v:=fun c hc=>by
  have hk:c ∈ K v:=by rw [h.gate v hv hg];exact List.mem_cons_of_mem _ hc
  obtain ⟨h1,h2,_⟩:=(h.sound v hv).1 c hk
  exact ⟨h1,h2,((h.sound v hv).2.2 c hg hc).2.2⟩
 have hnd:(keepA K (cands (K (G.a v)) (K (G.b v)))).Nodup:=by
  refine List.Pairwise.imp_of_mem (fun {a b} ha hb hno e=>?_) (keepA_no (K:=K) (cands (K (G.a v)) (K (G.b v))) [] List.Pairwise.nil)
  subst e
  have:=beats_self (K:=K) (c:=a) (fun u hu=>(h.sound u (by have:=(hall a ha).2.2 u hu;omega)).2.1 (by
   by_cases e:u=0
   ·exfalso
    subst e
    have hi:=(h.imp v hv hg a ha).bare 0 hu
    refine hi (fun w hw=>?_)
    refine ((h.imp v hv hg a ha).tell w hw).trans (fun y hy=>?_)
    rw [List.append_nil] at hy ⊢
    by_cases e:y=0
    ·rw [e];exact .zero
    ·exact .leaf ((List.mem_erase_of_ne e).2 hy)
   ·omega))
  rw [hno.1] at this
  cases this
 exact Mp.few G 8 4 0 [] [G.a v,G.b v] (by omega) (fun _ _ _=>Nat.zero_le _) _ hnd (fun S hS=>⟨(hall S hS).1,(hall S hS).2.1,h.imp v hv hg S hS⟩)
end Mp
end Go.Proofs.Ytlaljeobdddegaa

namespace Go.Proofs.Ytlaljeobdddegaa
namespace Mp
def mkB:Nat→(Nat→Bool)→Nat
 | 0,_=>0
 | n+1,f=>mkB n f+if f n then 2 ^ n else 0
theorem mkB_lt (n:Nat) (f:Nat→Bool):mkB n f<2 ^ n:=by
 induction n with
 | zero=>show 0<1;omega
 | succ n ih =>
  unfold mkB
  rw [Nat.pow_succ]
  split <;> omega
theorem mkB_bit (n:Nat) (f:Nat→Bool) (k:Nat):(mkB n f).testBit k=(decide (k<n) && f k):=by
 induction n with
 | zero=>simp [mkB]
 | succ n ih =>
  have hlt:=mkB_lt n f
  unfold mkB
  by_cases hf:f n=true
  ·rw [if_pos hf,Nat.add_comm]
   by_cases hk:k<n
   ·rw [Nat.testBit_two_pow_add_gt hk,ih]
    simp [hk,Nat.lt_succ_of_lt hk]
   ·by_cases e:k=n
    ·subst e
     rw [Nat.testBit_two_pow_add_eq,ih]
     simp [hf]
    ·have h1:2 ^ n+mkB n f<2 ^ k:=by
      have:2 ^ (n+1)≤2 ^ k:=Nat.pow_le_pow_right (by omega) (by omega)
      rw [Nat.pow_succ] at this
      omega
     rw [Nat.testBit_lt_two_pow h1]
     simp;intro h;omega
  ·simp only [Bool.not_eq_true] at hf
   rw [hf]
   simp only [Bool.false_eq_true,if_false,Nat.add_zero]
   rw [ih]
   by_cases hk:k<n
   ·simp [hk,Nat.lt_succ_of_lt hk]
   ·by_cases e:k=n
    ·subst e;simp [hf]
    ·have:¬ k<n+1:=by omega
     simp [hk,this]
def spl (l:List Bool):Nat:=mkB l.length (fun i=>l.getD i false)
theorem spl_lt (l:List Bool):spl l<2 ^ l.length:=mkB_lt _ _
theorem spl_bit (l:List Bool) (i:Nat):(spl l).testBit i=l.getD i false:=by
 unfold spl
 rw [mkB_bit]
 by_cases h:i<l.length
 ·simp [h]
 ·simp [h,List.getD_eq_getElem?_getD]
theorem nat_eq {a b:Nat} (h:∀ i,a.testBit i=b.testBit i):a=b:=Nat.eq_of_testBit_eq h
def spAt (ps:List Nat) (k:Nat):Nat:=spl (ps.map fun p=>k.testBit p)
theorem spAt_bit (ps:List Nat) (k i:Nat):(spAt ps k).testBit i=((ps[i]?.map fun p=>k.testBit p).getD false):=by
 unfold spAt
 rw [spl_bit,List.getD_eq_getElem?_getD,List.getElem?_map]
def sprT (ps:List Nat) (tb:Nat) (inv:Bool):Nat:=mkB 16 fun k=>tb.testBit (spAt ps k) != inv
theorem sprT_val {l all:List Nat} {val:Nat→Bool} {ps:List Nat} (h4:all.length≤4) (hp:ps.map (fun p=>all[p]?)=l.map some) (tb:Nat) (inv:Bool):(sprT ps tb inv).testBit (spl (all.map val))=(tb.testBit (spl (l.map val)) != inv):=by
 have hlt:spl (all.map val)<16:=by
  have h1:=spl_lt (all.map val)
  rw [List.length_map] at h1
  have:2 ^ all.length≤2 ^ 4:=Nat.pow_le_pow_right (by omega) h4
  omega
 have e:spAt ps (spl (all.map val))=spl (l.map val):=by
  refine nat_eq (fun i=>?_)
  rw [spAt_bit,spl_bit,List.getD_eq_getElem?_getD,List.getElem?_map]
  have hi:=congrArg (fun z=>z[i]?) hp
  simp only [List.getElem?_map] at hi
  cases hps:ps[i]? with
  | none =>
   rw [hps] at hi
   cases hl:l[i]? with
   | none=>rfl
   | some x=>rw [hl] at hi;cases hi
  | some p =>
   rw [hps] at hi
   cases hl:l[i]? with
   | none=>rw [hl] at hi;cases hi
   | some x =>
    rw [hl] at hi
    simp only [Option.map_some,Option.some.injEq] at hi
    simp only [Option.map_some,Option.getD_some]
    rw [spl_bit,List.getD_eq_getElem?_getD,List.getElem?_map,hi]
    rfl
 unfold sprT
 rw [mkB_bit,e]
 simp [hlt]
def Idle (tb i:Nat):Prop:=∀ k,k<16→tb.testBit k=tb.testBit (k ^^^ 2 ^ i)
def trnT (bits p n:Nat):Nat:=mkB (2 ^ n) fun k=>bits.testBit (k ^^^ 2 ^ p)
theorem trnT_val {l:List Bool} {p:Nat} (hp:p<l.length) (bits:Nat):(trnT bits p l.length).testBit (spl l)=bits.testBit (spl (l.set p (!l.getD p false))):=by
 unfold trnT
 rw [mkB_bit]
 have e:spl l ^^^ 2 ^ p=spl (l.set p (!l.getD p false)):=by
  refine nat_eq (fun i=>?_)
  rw [Nat.testBit_xor,spl_bit,spl_bit,Nat.testBit_two_pow]
  simp only [List.getD_eq_getElem?_getD]
  by_cases h:p=i
  ·subst h
   rw [List.getElem?_set_self hp]
   simp
  ·rw [List.getElem?_set_ne h]
   simp [h]
 rw [e]
 simp [spl_lt l]
theorem bit16 {K j:Nat} (h:K<16) (hj:¬ j<4):K.testBit j=false:=by
 refine Nat.testBit_lt_two_pow (Nat.lt_of_lt_of_le h ?_)
 have:2 ^ 4≤2 ^ j:=Nat.pow_le_pow_right (by omega) (by omega)
 omega
theorem idle_agree {tb K K':Nat} (hK:K<16) (hK':K'<16) (h:∀ i,i<4→K.testBit i≠K'.testBit i→Idle tb i):tb.testBit K=tb.testBit K':=by
 have hm:∀ i j,(mkB 4 (fun j=>if j<i then K'.testBit j else K.testBit j)).testBit j=if j<i then (decide (j<4) && K'.testBit j) else (decide (j<4) && K.testBit j):=fun i j=>by
  rw [mkB_bit];split <;> rfl
 have key:∀ i,i≤4→tb.testBit K=tb.testBit (mkB 4 (fun j=>if j<i then K'.testBit j else K.testBit j)):=by
  intro i
  induction i with
  | zero =>
   intro _
   congr 1
   refine nat_eq (fun j=>?_)
   rw [hm,if_neg (by omega)]
   by_cases hj:j<4
   ·simp [hj]
   ·simp [hj,bit16 hK hj]
  | succ i ih =>
   intro hi
   rw [ih (by omega)]
   by_cases e:K.testBit i=K'.testBit i
   ·congr 1
    refine nat_eq (fun j=>?_)
    rw [hm,hm]
    by_cases hj:j=i
    ·subst hj;rw [if_neg (by omega),if_pos (by omega),e]
    ·by_cases hj2:j<i
     ·rw [if_pos hj2,if_pos (by omega)]
     ·rw [if_neg hj2,if_neg (by omega)]
   ·rw [h i (by omega) e _ (mkB_lt 4 _)]
    congr 1
    refine nat_eq (fun j=>?_)
    rw [Nat.testBit_xor,hm,hm,Nat.testBit_two_pow]
    by_cases hj:j=i
    ·subst hj
     rw [if_neg (by omega),if_pos (by omega)]
     have h4:j<4:=by omega
     simp only [h4,decide_true,Bool.true_and]
     cases h1:K.testBit j <;> cases h2:K'.testBit j <;> simp_all
    ·have hne:¬ i=j:=fun e=>hj e.symm
     simp only [hne,decide_false,Bool.bne_false]
     by_cases hj2:j<i
     ·rw [if_pos hj2,if_pos (by omega)]
     ·rw [if_neg hj2,if_neg (by omega)]
 rw [key 4 (Nat.le_refl _)]
 congr 1
 refine nat_eq (fun j=>?_)
 rw [hm]
 by_cases hj:j<4
 ·rw [if_pos hj];simp [hj]
 ·rw [if_neg hj];simp [hj,bit16 hK' hj]
def putB (ps:List Nat) (k:Nat):Nat:=mkB 4 fun j=>(List.range ps.length).any fun i=>decide (ps[i]?=some j) && k.testBit i
def bitT (ps:List Nat) (tb:Nat):Nat:=mkB (2 ^ ps.length) fun k=>tb.testBit (putB ps k)
theorem bitT_val {l ps:List Nat} {val:Nat→Bool} {tb:Nat} (h4:l.length≤4) (hp:∀ p,p ∈ ps→p<l.length) (hnd:ps.Nodup) (hid:∀ i,i<4→i ∉ ps→Idle tb i):(bitT ps tb).testBit (spl (ps.map fun p=>val (l.getD p 0)))=tb.testBit (spl (l.map val)):=by
 have hlt:spl (ps.map fun p=>val (l.getD p 0))<2 ^ ps.length:=by
  have:=spl_lt (ps.map fun p=>val (l.getD p 0))
  rwa [List.length_map] at this
 have hl16:spl (l.map val)<16:=by
  have h1:=spl_lt (l.map val)
  rw [List.length_map] at h1
  have:2 ^ l.length≤2 ^ 4:=Nat.pow_le_pow_right (by omega) h4
  omega
 unfold bitT
 rw [mkB_bit]
 simp only [hlt,decide_true,Bool.true_and]
 refine idle_agree (mkB_lt 4 _) hl16 (fun i hi hne=>hid i hi (fun hm=>hne ?_))
 unfold putB
 rw [mkB_bit]
 simp only [hi,decide_true,Bool.true_and]
 obtain ⟨q,hq⟩:=List.getElem?_of_mem hm
 have hil:=hp i hm
 rw [spl_bit,List.getD_eq_getElem?_getD,List.getElem?_map,List.getElem?_eq_getElem hil]
 have hb:(spl (ps.map fun p=>val (l.getD p 0))).testBit q=val (l.getD i 0):=by
  rw [spl_bit,List.getD_eq_getElem?_getD,List.getElem?_map,hq];rfl
 have hg:l.getD i 0=l[i]:=by rw [List.getD_eq_getElem?_getD,List.getElem?_eq_getElem hil];rfl
 simp only [Option.map_some,Option.getD_some]
 rw [←hg]
 cases hv:val (l.getD i 0) with
 | true =>
  rw [List.any_eq_true]
  exact ⟨q,List.mem_range.2 (List.getElem?_eq_some_iff.1 hq).1,by rw [hb,hv];simp [hq]⟩
 | false =>
  rw [List.any_eq_false]
  intro r hr hh
  rw [Bool.and_eq_true] at hh
  have h1:=of_decide_eq_true hh.1
  have hrq:r=q:=by
   obtain ⟨hr1,hr2⟩:=List.getElem?_eq_some_iff.1 h1
   obtain ⟨hq1,hq2⟩:=List.getElem?_eq_some_iff.1 hq
   exact (List.getElem_inj hnd).1 (hr2.trans hq2.symm)
  rw [hrq,hb,hv] at hh
  cases hh.2
end Mp
end Go.Proofs.Ytlaljeobdddegaa
