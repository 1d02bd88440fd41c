import Derived.Test.YtlaljeobdddegaaJ04
import Derived.Test.YtlaljeobdddegaaJ05
import Derived.WalkKit
import Derived.Deep.RegionHeld3
import Derived.Below
import Derived.Lib.MinMax
import Derived.Test.YtlaljeobdddegaaRows
namespace Go.Proofs.Ytlaljeobdddegaa
open Go.RowKit
abbrev Bl (w w':World):Prop:=Below w.heap.size w w'
def Blk (w:World) (b:Nat) (t:TypeId) (arr:Array Value):Prop:=w.heap[b]?=some (.cells arr t (0,0))
theorem Blk.lt {w:World} {b:Nat} {t:TypeId} {arr:Array Value} (h:Blk w b t arr):b<w.heap.size:=(Array.getElem?_eq_some_iff.1 h).1
theorem Blk.cell {w:World} {b:Nat} {t:TypeId} {arr:Array Value} (h:Blk w b t arr) {i:Nat} {v:Value} (hv:arr[i]?=some v):w.cell? ⟨b,i,none⟩=some v:=by
 simp [World.cell?,show w.heap[b]?=_ from h,hv]
theorem Blk.frozen {w:World} {b:Nat} {t:TypeId} {arr:Array Value} (h:Blk w b t arr) (i:Nat):w.frozen? ⟨b,i,none⟩=false:=by
 simp [World.frozen?,show w.heap[b]?=_ from h]
theorem Blk.set {w:World} {b:Nat} {t:TypeId} {arr:Array Value} (h:Blk w b t arr) (i:Nat) (v:Value):Blk (w.setCell ⟨b,i,none⟩ v) b t (arr.setIfInBounds i v):=by
 obtain ⟨hlt,hk⟩:=Array.getElem?_eq_some_iff.1 h
 show (w.heap.modify b _)[b]?=_
 rw [Array.getElem?_eq_getElem (by rw [Array.size_modify];exact hlt),Array.getElem_modify_self,hk]
 rfl
theorem Blk.new (w:World) (t:TypeId) (arr:Array Value):Blk (w.alloc (.cells arr t)) w.heap.size t arr:=by
 show (w.heap.push _)[w.heap.size]?=_
 simp
structure But (g:Nat) (w w':World):Prop where
 os:w'.os=w.os
 tape:w'.tape=w.tape
 output:w'.output=w.output
 size:w.heap.size≤w'.heap.size
 block:∀ k,k<w.heap.size→k≠g→w'.heap[k]?=w.heap[k]?
theorem But.refl (g:Nat) (w:World):But g w w:=⟨rfl,rfl,rfl,Nat.le_refl _,fun _ _ _=>rfl⟩
theorem But.trans {g:Nat} {a b c:World} (h:But g a b) (k:But g b c):But g a c :=
 ⟨k.os.trans h.os,k.tape.trans h.tape,k.output.trans h.output,Nat.le_trans h.size k.size,fun i hi hg=>(k.block i (Nat.lt_of_lt_of_le hi h.size) hg).trans (h.block i hi hg)⟩
theorem But.set (g i:Nat) (w:World) (v:Value):But g w (w.setCell ⟨g,i,none⟩ v):=⟨rfl,rfl,rfl,by simp [World.setCell],fun k _ hk=>Below.heap_setCell _ _ _ k hk⟩
theorem But.below {B g:Nat} {a w:World} (h:But g a w) (hB:B≤g) (hs:B≤a.heap.size):Below B a w:=⟨h.os,h.tape,h.output,h.size,fun k hk=>h.block k (by omega) (by omega)⟩
theorem But.blk {g b:Nat} {a w:World} {t:TypeId} {arr:Array Value} (h:But g a w) (hb:Blk a b t arr) (hne:b≠g):Blk w b t arr:=(h.block b hb.lt hne).trans hb
theorem Blk.below {b:Nat} {a w:World} {t:TypeId} {arr:Array Value} (hb:Blk a b t arr) (h:Below a.heap.size a w):Blk w b t arr:=(h.block b hb.lt).trans hb
theorem But.grown {g:Nat} {w w':World} (h:But g w w'):w.grownBy w' (some g):=⟨h.os,h.tape,h.output,h.size,fun k hk hn=>h.block k hk (fun e=>hn (by rw [e]))⟩
theorem But.drew {g:Nat} {a w:World} (h:But g a w):But g a w.drew:=⟨h.os,h.tape,h.output,h.size,h.block⟩
theorem Blk.drew {w:World} {b:Nat} {t:TypeId} {arr:Array Value} (h:Blk w b t arr):Blk w.drew b t arr:=h
theorem exh {α:Type} (a:α):∃ x,Hid (x=a):=⟨_,rfl⟩
end Go.Proofs.Ytlaljeobdddegaa

namespace Go.Proofs.Ytlaljeobdddegaa
namespace Mp
structure Gr where
 first:Nat
 a:Nat→Nat
 b:Nat→Nat
 pos:0<first
 la:∀ v,first≤v→a v<v
 lb:∀ v,first≤v→b v<v
inductive Tl (G:Gr) (C:List Nat):Nat→Prop
 | leaf {v:Nat} (h:v ∈ C):Tl G C v
 | zero:Tl G C 0
 | gate {v:Nat} (h:G.first≤v) (ha:Tl G C (G.a v)) (hb:Tl G C (G.b v)):Tl G C v
theorem Tl.trans {G:Gr} {C D:List Nat} {v:Nat} (h:Tl G C v) (hc:∀ u,u ∈ C→Tl G D u):Tl G D v:=by
 induction h with
 | leaf h=>exact hc _ h
 | zero=>exact .zero
 | gate h _ _ iha ihb=>exact .gate h iha ihb
theorem Tl.mono {G:Gr} {C D:List Nat} {v:Nat} (h:Tl G C v) (hc:∀ u,u ∈ C→u ∈ D):Tl G D v:=h.trans (fun u hu=>.leaf (hc u hu))
theorem Tl.low {G:Gr} {C:List Nat} {v:Nat} (h:Tl G C v) (n:Nat) (hn:v≤n):Tl G (C.filter (fun u=>decide (u≤n))) v:=by
 induction h with
 | leaf h=>exact .leaf (List.mem_filter.2 ⟨h,decide_eq_true hn⟩)
 | zero=>exact .zero
 | gate h _ _ iha ihb =>
  have h1:=G.la _ h
  have h2:=G.lb _ h
  exact .gate h (iha (by omega)) (ihb (by omega))
inductive Cone (G:Gr):Nat→Nat→Prop
 | here (v:Nat):Cone G v v
 | goA {u v:Nat} (h:G.first≤v) (k:Cone G u (G.a v)):Cone G u v
 | goB {u v:Nat} (h:G.first≤v) (k:Cone G u (G.b v)):Cone G u v
theorem Tl.need {G:Gr} {C D:List Nat} {v e:Nat} (h:Tl G C v) (hd:∀ u,u ∈ C→u≠e→u ∈ D) (hn:¬ Tl G D v):Cone G e v:=by
 induction h with
 | @leaf v h =>
  by_cases he:v=e
  ·rw [he];exact .here e
  ·exact absurd (.leaf (hd v h he)) hn
 | zero=>exact absurd .zero hn
 | @gate v h ha hb iha ihb =>
  by_cases h1:Tl G D (G.a v)
  ·by_cases h2:Tl G D (G.b v)
   ·exact absurd (.gate h h1 h2) hn
   ·exact .goB h (ihb h2)
  ·exact .goA h (iha h1)
def TlAll (G:Gr) (C D:List Nat):Prop:=∀ u,u ∈ D→Tl G C u
theorem TlAll.trans {G:Gr} {C D E:List Nat} (h:TlAll G C D) (k:TlAll G D E):TlAll G C E:=fun u hu=>(k u hu).trans h
def Tight (G:Gr) (D:List Nat):Prop:=∀ F:List Nat,F.Nodup→TlAll G F D→F.length≤D.length→∀ x,x ∈ F↔x ∈ D
theorem nd_len {C D:List Nat} (hc:C.Nodup) (h:∀ x,x ∈ C→x ∈ D):C.length≤D.length:=by
 induction C generalizing D with
 | nil=>exact Nat.zero_le _
 | cons a r ih =>
  have ha:=h a List.mem_cons_self
  have hr:=List.nodup_cons.1 hc
  have:=ih (D:=D.erase a) hr.2 (fun x hx=>(List.mem_erase_of_ne (fun e:x=a=>hr.1 (by rw [←e];exact hx))).2 (h x (List.mem_cons_of_mem _ hx)))
  rw [List.length_erase_of_mem ha] at this
  have hp:0<D.length:=List.length_pos_of_mem ha
  rw [List.length_cons]
  omega
theorem nd_same {C D:List Nat} (hc:C.Nodup) (h:∀ x,x ∈ C→x ∈ D) (hl:D.length≤C.length):∀ x,x ∈ D→x ∈ C:=by
 intro x hx
 by_cases hm:x ∈ C
 ·exact hm
 ·have:=nd_len (C:=x :: C) (D:=D) (List.nodup_cons.2 ⟨hm,hc⟩) (fun y hy=>by
   rcases List.mem_cons.1 hy with rfl | hy
   ·exact hx
   ·exact h y hy)
  rw [List.length_cons] at this
  omega
def swp (D D' F:List Nat):List Nat:=D.filter (fun x=>!decide (x ∈ D') && !decide (x ∈ F))++F
theorem swp_mem {D D' F:List Nat} {x:Nat}:x ∈ swp D D' F↔(x ∈ D∧x ∉ D')∨x ∈ F:=by
 unfold swp
 rw [List.mem_append,List.mem_filter]
 simp only [Bool.and_eq_true,Bool.not_eq_true',decide_eq_false_iff_not]
 constructor
 ·rintro (⟨h1,h2,_⟩ | h)
  ·exact Or.inl ⟨h1,h2⟩
  ·exact Or.inr h
 ·rintro (⟨h1,h2⟩ | h)
  ·by_cases hf:x ∈ F
   ·exact Or.inr hf
   ·exact Or.inl ⟨h1,h2,hf⟩
  ·exact Or.inr h
theorem swp_nodup {D D' F:List Nat} (hd:D.Nodup) (hf:F.Nodup):(swp D D' F).Nodup:=by
 unfold swp
 refine List.nodup_append.2 ⟨hd.filter _,hf,fun x hx y hy e=>?_⟩
 have:=(List.mem_filter.1 hx).2
 simp only [Bool.and_eq_true,Bool.not_eq_true',decide_eq_false_iff_not] at this
 exact this.2 (e ▸ hy)
theorem filter_split (D:List Nat) (p:Nat→Bool):(D.filter p).length+(D.filter (fun x=>!p x)).length=D.length:=by
 induction D with
 | nil=>rfl
 | cons a r ih =>
  by_cases h:p a=true
  ·simp [h];omega
  ·simp only [Bool.not_eq_true] at h
   simp [h];omega
theorem swp_len {D D' F:List Nat} (hd':D'.Nodup) (hs:∀ x,x ∈ D'→x ∈ D) (hl:F.length≤D'.length):(swp D D' F).length≤D.length:=by
 unfold swp
 rw [List.length_append]
 have h1:=filter_split D (fun x=>!decide (x ∈ D') && !decide (x ∈ F))
 have h2:=nd_len (C:=D') (D:=D.filter (fun x=>!(!decide (x ∈ D') && !decide (x ∈ F)))) hd' (fun x hx=>List.mem_filter.2 ⟨hs x hx,by simp [hx]⟩)
 omega
theorem Tight.sub {G:Gr} {D D':List Nat} (h:Tight G D) (hd:D.Nodup) (hd':D'.Nodup) (hs:∀ x,x ∈ D'→x ∈ D):Tight G D':=by
 intro F hF ht hl x
 have hsw:=h (swp D D' F) (swp_nodup hd hF) (fun u hu=>by
  by_cases hm:u ∈ D'
  ·exact (ht u hm).mono (fun y hy=>swp_mem.2 (Or.inr hy))
  ·exact .leaf (swp_mem.2 (Or.inl ⟨hu,hm⟩))) (swp_len hd' hs hl)
 have hsub:∀ y,y ∈ D'→y ∈ F:=fun y hy=>by
  rcases swp_mem.1 ((hsw y).2 (hs y hy)) with ⟨_,h2⟩ | h2
  ·exact absurd hy h2
  ·exact h2
 exact ⟨nd_same hd' hsub hl x,hsub x⟩
def Bare (G:Gr) (D:List Nat) (v:Nat):Prop:=Tl G D v∧∀ x,x ∈ D→¬ Tl G (D.erase x) v
theorem bare_of {G:Gr} {D:List Nat} {v:Nat} (hd:D.Nodup) (h:Tl G D v):∃ D',D'.Nodup∧(∀ x,x ∈ D'→x ∈ D)∧Bare G D' v:=by
 obtain ⟨n,hn⟩:∃ n,n=D.length:=⟨_,rfl⟩
 induction n generalizing D with
 | zero=>exact ⟨D,hd,fun x hx=>hx,h,fun x hx=>by rw [List.eq_nil_of_length_eq_zero hn.symm] at hx;cases hx⟩
 | succ n ih =>
  by_cases hx:∃ x,x ∈ D∧Tl G (D.erase x) v
  ·obtain ⟨x,hxm,hxt⟩:=hx
   obtain ⟨D',h1,h2,h3⟩:=ih (D:=D.erase x) (hd.erase x) hxt (by rw [List.length_erase_of_mem hxm];omega)
   exact ⟨D',h1,fun y hy=>List.mem_of_mem_erase (h2 y hy),h3⟩
  ·exact ⟨D,hd,fun x hx=>hx,h,fun x hxm ht=>hx ⟨x,hxm,ht⟩⟩
theorem Bare.all {G:Gr} {D E:List Nat} {v:Nat} (h:Bare G D v) (hd:D.Nodup) (hs:∀ x,x ∈ E→x ∈ D) (ht:Tl G E v):∀ x,x ∈ D→x ∈ E:=by
 intro x hx
 by_cases hm:x ∈ E
 ·exact hm
 ·exact absurd (ht.mono (fun y hy=>(hd.mem_erase_iff).2 ⟨fun e=>hm (by rw [←e];exact hy),hs y hy⟩)) (h.2 x hx)
open Classical in
noncomputable def cntT (G:Gr) (D:List Nat) (n:Nat):Nat:=((List.range n).filter (fun v=>decide (Tl G D v))).length
theorem filter_le {p q:Nat→Bool} {l:List Nat} (h:∀ x,x ∈ l→p x=true→q x=true):(l.filter p).length≤(l.filter q).length:=by
 induction l with
 | nil=>exact Nat.le_refl _
 | cons a r ih =>
  have:=ih (fun x hx=>h x (List.mem_cons_of_mem _ hx))
  by_cases hp:p a=true
  ·have hq:=h a List.mem_cons_self hp
   simp [hp,hq];omega
  ·simp only [Bool.not_eq_true] at hp
   by_cases hq:q a=true
   ·simp [hp,hq];omega
   ·simp only [Bool.not_eq_true] at hq
    simp [hp,hq];omega
theorem filter_eq {p q:Nat→Bool} {l:List Nat} (h:∀ x,x ∈ l→p x=true→q x=true) (he:(l.filter q).length≤(l.filter p).length):∀ x,x ∈ l→q x=true→p x=true:=by
 induction l with
 | nil=>intro x hx;cases hx
 | cons a r ih =>
  have hr:∀ x,x ∈ r→p x=true→q x=true:=fun x hx=>h x (List.mem_cons_of_mem _ hx)
  have hle:=filter_le hr
  intro x hx hqx
  by_cases hp:p a=true
  ·have hq:=h a List.mem_cons_self hp
   simp [hp,hq] at he
   rcases List.mem_cons.1 hx with rfl | hx
   ·exact hp
   ·exact ih hr he x hx hqx
  ·simp only [Bool.not_eq_true] at hp
   by_cases hq:q a=true
   ·simp [hp,hq] at he;omega
   ·rcases List.mem_cons.1 hx with rfl | hx
    ·exact absurd hqx hq
    ·simp only [Bool.not_eq_true] at hq
     simp [hp,hq] at he
     exact ih hr he x hx hqx
open Classical in
theorem cntT_le (G:Gr) (D:List Nat) (n:Nat):cntT G D n≤n:=by
 unfold cntT
 have:=List.length_filter_le (fun v=>decide (Tl G D v)) (List.range n)
 rw [List.length_range] at this
 exact this
open Classical in
theorem cntT_same {G:Gr} {D F:List Nat} {n:Nat} (h:TlAll G F D) (he:cntT G F n≤cntT G D n):∀ v,v<n→Tl G F v→Tl G D v:=by
 intro v hv ht
 have:=filter_eq (p:=fun v=>decide (Tl G D v)) (q:=fun v=>decide (Tl G F v)) (l:=List.range n) (fun x _ hx=>decide_eq_true ((of_decide_eq_true hx).trans h)) he v (List.mem_range.2 hv) (decide_eq_true ht)
 exact of_decide_eq_true this
theorem least {P:Nat→Prop} (h:∃ n,P n):∃ n,P n∧∀ m,P m→n≤m:=by
 obtain ⟨n,hn⟩:=h
 induction n using Nat.strongRecOn with
 | _ n ih =>
  by_cases hx:∃ m,m<n∧P m
  ·obtain ⟨m,hm,hp⟩:=hx
   exact ih m hm hp
  ·exact ⟨n,hn,fun m hm=>by
    by_cases e:n≤m
    ·exact e
    ·exact absurd ⟨m,by omega,hm⟩ hx⟩
theorem tell_less {G:Gr} {E F:List Nat} (hF:F.Nodup) (hFE:TlAll G F E) (hEF:TlAll G E F) {x:Nat} (hx:x ∈ F) (hxE:x ∉ E):TlAll G (F.erase x) F:=by
 have hlow:∀ y,y<x→Tl G F y→Tl G (F.erase x) y:=fun y hy ht=>by
  refine (ht.low y (Nat.le_refl _)).mono (fun u hu=>?_)
  obtain ⟨h1,h2⟩:=List.mem_filter.1 hu
  have:=of_decide_eq_true h2
  exact (hF.mem_erase_iff).2 ⟨by omega,h1⟩
 have hxt:Tl G (F.erase x) x:=by
  have h1:=(hEF x hx).low x (Nat.le_refl _)
  refine h1.trans (fun u hu=>?_)
  obtain ⟨h2,h3⟩:=List.mem_filter.1 hu
  have h4:=of_decide_eq_true h3
  have hne:u≠x:=fun e=>hxE (e ▸ h2)
  exact hlow u (by omega) (hFE u h2)
 intro u hu
 by_cases e:u=x
 ·rw [e];exact hxt
 ·exact .leaf ((hF.mem_erase_iff).2 ⟨e,hu⟩)
theorem tight_of {G:Gr} {C:List Nat} (hC:C.Nodup) (n:Nat) (hn:∀ u,u ∈ C→u<n):∃ D,D.Nodup∧TlAll G D C∧D.length≤C.length∧Tight G D∧(∀ u,u ∈ D→u<n)∧∀ x,x ∈ D→¬ TlAll G (D.erase x) C:=by
 obtain ⟨m,⟨D,hD,hDC,rfl⟩,hmin⟩:=least (P:=fun m=>∃ D:List Nat,D.Nodup∧TlAll G D C∧m=D.length*(n+1)+(n - cntT G D n)) ⟨_,C,hC,fun u hu=>.leaf hu,rfl⟩
 have hsz:∀ F:List Nat,F.Nodup→TlAll G F C→D.length≤F.length:=fun F hF hFC=>by
  have h1:=hmin _ ⟨F,hF,hFC,rfl⟩
  by_cases e:D.length≤F.length
  ·exact e
  ·have h2:(F.length+1)*(n+1)≤D.length*(n+1):=Nat.mul_le_mul (by omega) (Nat.le_refl _)
   rw [Nat.add_mul] at h2
   omega
 have hne:∀ x,x ∈ D→¬ TlAll G (D.erase x) C:=fun x hx ht=>by
  have:=hsz _ (hD.erase x) ht
  rw [List.length_erase_of_mem hx] at this
  have:=List.length_pos_of_mem hx
  omega
 refine ⟨D,hD,hDC,hsz C hC (fun u hu=>.leaf hu),?_,fun u hu=>?_,hne⟩
 ·intro F hF hFD hl
  have hFC:=hFD.trans hDC
  have hlen:F.length=D.length:=Nat.le_antisymm hl (hsz F hF hFC)
  have h1:=hmin _ ⟨F,hF,hFC,rfl⟩
  rw [hlen] at h1
  have hc1:=cntT_le G D n
  have hc2:=cntT_le G F n
  have hsame:=cntT_same hFD (n:=n) (by omega)
  have hFn:∀ x,x ∈ F→¬ TlAll G (F.erase x) C:=fun x hx ht=>by
   have:=hsz _ (hF.erase x) ht
   rw [List.length_erase_of_mem hx,hlen] at this
   have:=List.length_pos_of_mem hx
   omega
  have hlt:∀ E:List Nat,E.Nodup→TlAll G E C→(∀ x,x ∈ E→¬ TlAll G (E.erase x) C)→∀ u,u ∈ E→u<n:=fun E hE hEC hEn u hu=>by
   by_cases e:u<n
   ·exact e
   ·refine absurd (fun v hv=>?_) (hEn u hu)
    have hv':=hn v hv
    refine ((hEC v hv).low v (Nat.le_refl _)).mono (fun y hy=>?_)
    obtain ⟨h2,h3⟩:=List.mem_filter.1 hy
    have:=of_decide_eq_true h3
    exact (hE.mem_erase_iff).2 ⟨by omega,h2⟩
  have hDF:TlAll G D F:=fun u hu=>hsame u (hlt F hF hFC hFn u hu) (.leaf hu)
  intro x
  constructor
  ·intro h2
   by_cases h3:x ∈ D
   ·exact h3
   ·exact absurd ((tell_less hF hFD hDF h2 h3).trans hFC) (hFn x h2)
  ·intro h3
   by_cases h2:x ∈ F
   ·exact h2
   ·exact absurd ((tell_less hD hDF hFD h3 h2).trans hDC) (hne x h3)
 ·by_cases e:u<n
  ·exact e
  ·refine absurd (fun v hv=>?_) (hne u hu)
   have hv':=hn v hv
   refine ((hDC v hv).low v (Nat.le_refl _)).mono (fun y hy=>?_)
   obtain ⟨h2,h3⟩:=List.mem_filter.1 hy
   have:=of_decide_eq_true h3
   exact (hD.mem_erase_iff).2 ⟨by omega,h2⟩
structure Kept (G:Gr) (N:Nat) (K:Nat→List (List Nat)):Prop where
 nd:∀ v,v<N→∀ c,c ∈ K v→c.Nodup∧c.length≤4
 zero:[] ∈ K 0
 self:∀ v,v<N→0<v→[v] ∈ K v
 via:∀ v,v<N→G.first≤v→∀ c,c ∈ K v→v ∉ c→Tl G c (G.a v)∧Tl G c (G.b v)
 dom:∀ v,v<N→G.first≤v→∀ x,x ∈ K (G.a v)→∀ y,y ∈ K (G.b v)→∀ c:List Nat,c.Nodup→c.length≤4→(∀ u,u ∈ c↔u ∈ x∨u ∈ y)→∃ k,k ∈ K v∧v ∉ k∧k.length≤c.length∧TlAll G k c
theorem Kept.tight {G:Gr} {N:Nat} {K:Nat→List (List Nat)} (h:Kept G N K) (v:Nat) (hv:v<N):∀ D:List Nat,D.Nodup→D.length≤4→Tight G D→Bare G D v→∃ k,k ∈ K v∧∀ x,x ∈ k↔x ∈ D:=by
 induction v using Nat.strongRecOn with
 | _ v ih =>
  intro D hD h4 ht hb
  by_cases h0:v=0
  ·subst h0
   have:=hb.all hD (E:=[]) (fun x hx=>by cases hx) .zero
   exact ⟨[],h.zero,fun x=>⟨fun hx=>(by cases hx),fun hx=>this x hx⟩⟩
  ·by_cases hm:v ∈ D
   ·have:=hb.all hD (E:=[v]) (fun x hx=>by rw [List.mem_singleton.1 hx];exact hm) (.leaf (List.mem_singleton.2 rfl))
    exact ⟨[v],h.self v hv (by omega),fun x=>⟨fun hx=>by rw [List.mem_singleton.1 hx];exact hm,fun hx=>this x hx⟩⟩
   ·obtain ⟨hg,ha,hb'⟩:G.first≤v∧Tl G D (G.a v)∧Tl G D (G.b v):=by
     cases hb.1 with
     | leaf h=>exact absurd h hm
     | zero=>exact absurd rfl h0
     | gate h1 h2 h3=>exact ⟨h1,h2,h3⟩
    have hla:=G.la v hg
    have hlb:=G.lb v hg
    obtain ⟨A,hA,hAD,hAb⟩:=bare_of hD ha
    obtain ⟨B,hB,hBD,hBb⟩:=bare_of hD hb'
    have lenA:=nd_len hA hAD
    have lenB:=nd_len hB hBD
    obtain ⟨ka,hka,hka2⟩:=ih _ hla (by omega) A hA (by omega) (ht.sub hD hA hAD) hAb
    obtain ⟨kb,hkb,hkb2⟩:=ih _ hlb (by omega) B hB (by omega) (ht.sub hD hB hBD) hBb
    have hall:=hb.all hD (E:=A++B) (fun x hx=>by
     rcases List.mem_append.1 hx with h | h
     ·exact hAD x h
     ·exact hBD x h) (.gate hg (hAb.1.mono (fun u hu=>List.mem_append.2 (Or.inl hu))) (hBb.1.mono (fun u hu=>List.mem_append.2 (Or.inr hu))))
    obtain ⟨k,hk,_,hkl,hkt⟩:=h.dom v hv hg ka hka kb hkb D hD h4 (fun u=>by
     rw [hka2,hkb2]
     exact ⟨fun hu=>List.mem_append.1 (hall u hu),fun hu=>by
      rcases hu with hu | hu
      ·exact hAD u hu
      ·exact hBD u hu⟩)
    exact ⟨k,hk,ht k (h.nd v hv k hk).1 hkt hkl⟩
structure Deep (G:Gr) (N:Nat) (K:Nat→List (List Nat)) (dp:Nat→Nat):Prop where
 src:∀ v,v<G.first→dp v=0
 le:∀ v,v<N→G.first≤v→∀ k,k ∈ K v→v ∉ k→∀ m,(∀ u,u ∈ k→dp u≤m)→dp v≤1+m
 ex:∀ v,v<N→G.first≤v→1≤dp v∧∃ k,k ∈ K v∧v ∉ k∧∀ u,u ∈ k→dp u+1≤dp v
theorem Kept.deep {G:Gr} {N:Nat} {K:Nat→List (List Nat)} {dp:Nat→Nat} (h:Kept G N K) (hd:Deep G N K dp) (w:Nat) (hw:w<N) :
  (∀ e,Cone G e w→dp e≤dp w)∧(G.first≤w→∀ C:List Nat,C.Nodup→C.length≤4→Tl G C (G.a w)→Tl G C (G.b w)→w ∉ C→∀ m,(∀ u,u ∈ C→dp u≤m)→dp w≤1+m):=by
 induction w using Nat.strongRecOn with
 | _ w ih =>
  have hstep:∀ x,G.first≤w→x<w→(∀ k:List Nat,k ∈ K w→w ∉ k→Tl G k x)→dp x≤dp w:=fun x hg hx hk=>by
   obtain ⟨h1,k,hkm,hwk,hku⟩:=hd.ex w hw hg
   by_cases hxf:x<G.first
   ·rw [hd.src x hxf];omega
   ·cases hk k hkm hwk with
    | leaf hm=>have:=hku x hm;omega
    | zero=>have:=G.pos;omega
    | gate hg2 ha hb =>
     by_cases hm:x ∈ k
     ·have:=hku x hm;omega
     ·have:=(ih x hx (by omega)).2 hg2 k (h.nd w hw k hkm).1 (h.nd w hw k hkm).2 ha hb hm (dp w - 1) (fun u hu=>by have:=hku u hu;omega)
      omega
  refine ⟨fun e he=>?_,fun hg C hC h4 ha hb _ m hm=>?_⟩
  ·cases he with
   | here=>exact Nat.le_refl _
   | goA hg k =>
    have hl:=G.la w hg
    exact Nat.le_trans ((ih _ hl (by omega)).1 e k) (hstep _ hg hl (fun c hc hwc=>(h.via w hw hg c hc hwc).1))
   | goB hg k =>
    have hl:=G.lb w hg
    exact Nat.le_trans ((ih _ hl (by omega)).1 e k) (hstep _ hg hl (fun c hc hwc=>(h.via w hw hg c hc hwc).2))
  ·have hla:=G.la w hg
   have hlb:=G.lb w hg
   have hC0:(C.filter (fun u=>decide (u≤w - 1))).Nodup:=hC.filter _
   have hlen:=List.length_filter_le (fun u=>decide (u≤w - 1)) C
   have ha0:=ha.low (w - 1) (by omega)
   have hb0:=hb.low (w - 1) (by omega)
   obtain ⟨D,hD,hDC,hDl,hDt,hDn,hDe⟩:=tight_of (G:=G) hC0 w (fun u hu=>by
    have:=of_decide_eq_true (List.mem_filter.1 hu).2
    have:=G.pos
    omega)
   have hDw:Tl G D w:=.gate hg (ha0.trans hDC) (hb0.trans hDC)
   obtain ⟨E,hE,hED,hEb⟩:=bare_of hD hDw
   have hEl:=nd_len hE hED
   obtain ⟨k,hk,hke⟩:=h.tight w hw E hE (by omega) (hDt.sub hD hE hED) hEb
   refine hd.le w hw hg k hk (fun hwk=>?_) m (fun u hu=>?_)
   ·have:=hDn w (hED w ((hke w).1 hwk));omega
   ·have huD:=hED u ((hke u).1 hu)
    obtain ⟨c,hc⟩:∃ c,c ∈ C.filter (fun u=>decide (u≤w - 1))∧¬ Tl G (D.erase u) c:=by
     by_cases hex:∃ c,c ∈ C.filter (fun u=>decide (u≤w - 1))∧¬ Tl G (D.erase u) c
     ·exact hex
     ·refine absurd (fun c hc=>?_) (hDe u huD)
      by_cases ht:Tl G (D.erase u) c
      ·exact ht
      ·exact absurd ⟨c,hc,ht⟩ hex
    have hcone:=(hDC c hc.1).need (e:=u) (D:=D.erase u) (fun x hx hne=>(hD.mem_erase_iff).2 ⟨hne,hx⟩) hc.2
    have hcw:=of_decide_eq_true (List.mem_filter.1 hc.1).2
    have hp:=G.pos
    exact Nat.le_trans ((ih c (by omega) (by omega)).1 u hcone) (hm c (List.mem_filter.1 hc.1).1)
end Mp
end Go.Proofs.Ytlaljeobdddegaa

namespace Go.Proofs.Ytlaljeobdddegaa
namespace Mp
structure HashM (G H:Gr) (N:Nat) (mu:Nat→Nat):Prop where
 zero:mu 0=0
 src:∀ v,v<G.first→mu v<H.first
 gate:∀ v,v<N→G.first≤v→mu v=0∨mu v=mu (G.a v)∨mu v=mu (G.b v)∨(H.first≤mu v∧((H.a (mu v)=mu (G.a v)∧H.b (mu v)=mu (G.b v))∨(H.a (mu v)=mu (G.b v)∧H.b (mu v)=mu (G.a v))))
theorem HashM.tl {G H:Gr} {N:Nat} {mu:Nat→Nat} (h:HashM G H N mu) {C:List Nat} {v:Nat} (hv:v<N) (ht:Tl G C v):Tl H (C.map mu) (mu v):=by
 induction ht with
 | leaf hm=>exact .leaf (List.mem_map.2 ⟨_,hm,rfl⟩)
 | zero=>rw [h.zero];exact .zero
 | @gate v hg ha hb iha ihb =>
  have h1:=G.la v hg
  have h2:=G.lb v hg
  have ta:=iha (by omega)
  have tb:=ihb (by omega)
  rcases h.gate v hv hg with e | e | e | ⟨hf,⟨e1,e2⟩ | ⟨e1,e2⟩⟩
  ·rw [e];exact .zero
  ·rw [e];exact ta
  ·rw [e];exact tb
  ·exact .gate hf (by rw [e1];exact ta) (by rw [e2];exact tb)
  ·exact .gate hf (by rw [e1];exact tb) (by rw [e2];exact ta)
structure CleanM (H J:Gr) (need:Nat→Prop) (rho:Nat→Nat):Prop where
 zero:rho 0=0
 src:∀ v,need v→v<H.first→rho v<J.first
 down:∀ v,need v→H.first≤v→need (H.a v)∧need (H.b v)
 gate:∀ v,need v→H.first≤v→J.first≤rho v∧((J.a (rho v)=rho (H.a v)∧J.b (rho v)=rho (H.b v))∨(J.a (rho v)=rho (H.b v)∧J.b (rho v)=rho (H.a v)))
theorem CleanM.tl {H J:Gr} {need:Nat→Prop} {rho:Nat→Nat} (h:CleanM H J need rho) {C E:List Nat} (hE:∀ u,u ∈ C→need u→rho u ∈ E) {v:Nat} (hv:need v) (ht:Tl H C v):Tl J E (rho v):=by
 induction ht with
 | leaf hm=>exact .leaf (hE _ hm hv)
 | zero=>rw [h.zero];exact .zero
 | @gate v hg ha hb iha ihb =>
  obtain ⟨na,nb⟩:=h.down v hv hg
  obtain ⟨hf,⟨e1,e2⟩ | ⟨e1,e2⟩⟩:=h.gate v hv hg
  ·exact .gate hf (by rw [e1];exact iha na) (by rw [e2];exact ihb nb)
  ·exact .gate hf (by rw [e1];exact ihb nb) (by rw [e2];exact iha na)
structure LabelD (G:Gr) (N:Nat) (label:Nat→Nat):Prop where
 ex:∀ v,v<N→G.first≤v→1≤label v∧∃ c:List Nat,c.Nodup∧c.length≤4∧(∀ u,u ∈ c→u<v)∧Tl G c (G.a v)∧Tl G c (G.b v)∧∀ u,u ∈ c→label u+1≤label v
open Classical in
noncomputable def imgs (need:Nat→Prop) (rho mu:Nat→Nat):List Nat→List Nat
 | []=>[]
 | u :: r=>if need (mu u)∧rho (mu u) ∉ imgs need rho mu r then rho (mu u) :: imgs need rho mu r else imgs need rho mu r
theorem imgs_spec (need:Nat→Prop) (rho mu:Nat→Nat) (c:List Nat):(imgs need rho mu c).Nodup∧(imgs need rho mu c).length≤c.length∧(∀ x,x ∈ imgs need rho mu c→∃ u,u ∈ c∧need (mu u)∧x=rho (mu u))∧∀ u,u ∈ c→need (mu u)→rho (mu u) ∈ imgs need rho mu c:=by
 induction c with
 | nil=>exact ⟨List.nodup_nil,Nat.le_refl _,fun x hx=>(by cases hx),fun u hu=>(by cases hu)⟩
 | cons a r ih =>
  obtain ⟨h1,h2,h3,h4⟩:=ih
  unfold imgs
  by_cases hc:need (mu a)∧rho (mu a) ∉ imgs need rho mu r
  ·rw [if_pos hc]
   refine ⟨List.nodup_cons.2 ⟨hc.2,h1⟩,by rw [List.length_cons,List.length_cons];omega,fun x hx=>?_,fun u hu hn=>?_⟩
   ·rcases List.mem_cons.1 hx with rfl | hx
    ·exact ⟨a,List.mem_cons_self,hc.1,rfl⟩
    ·obtain ⟨u,hu,k⟩:=h3 x hx
     exact ⟨u,List.mem_cons_of_mem _ hu,k⟩
   ·rcases List.mem_cons.1 hu with rfl | hu
    ·exact List.mem_cons_self
    ·exact List.mem_cons_of_mem _ (h4 u hu hn)
  ·rw [if_neg hc]
   refine ⟨h1,by rw [List.length_cons];omega,fun x hx=>?_,fun u hu hn=>?_⟩
   ·obtain ⟨u,hu,k⟩:=h3 x hx
    exact ⟨u,List.mem_cons_of_mem _ hu,k⟩
   ·rcases List.mem_cons.1 hu with rfl | hu
    ·by_cases hm:rho (mu u) ∈ imgs need rho mu r
     ·exact hm
     ·exact absurd ⟨hn,hm⟩ hc
    ·exact h4 u hu hn
theorem flat {G H J:Gr} {N M:Nat} {mu rho:Nat→Nat} {need:Nat→Prop} {K:Nat→List (List Nat)} {dp label:Nat→Nat} (hm:HashM G H N mu) (hr:CleanM H J need rho) (hlt:∀ v,v<N→need (mu v)→rho (mu v)<M) (hK:Kept J M K) (hD:Deep J M K dp) (hL:LabelD G N label) (v:Nat) (hv:v<N) (hn:need (mu v)):dp (rho (mu v))≤label v:=by
 induction v using Nat.strongRecOn with
 | _ v ih =>
  have hM:=hlt v hv hn
  by_cases hs:rho (mu v)<J.first
  ·rw [hD.src _ hs];exact Nat.zero_le _
  ·by_cases hg:v<G.first
   ·have:=hr.src _ hn (hm.src v hg);omega
   ·obtain ⟨h1,c,hcn,hc4,hcv,hca,hcb,hcl⟩:=hL.ex v hv (by omega)
    have ht:=hm.tl hv (.gate (by omega) hca hcb)
    obtain ⟨i1,i2,i3,i4⟩:=imgs_spec need rho mu c
    have ht2:=hr.tl (E:=imgs need rho mu c) (fun u hu hnu=>by
     obtain ⟨x,hx,rfl⟩:=List.mem_map.1 hu
     exact i4 x hx hnu) hn ht
    have hle:∀ u,u ∈ imgs need rho mu c→dp u≤label v - 1:=fun u hu=>by
     obtain ⟨x,hx,hnx,rfl⟩:=i3 u hu
     have:=ih x (hcv x hx) (by have:=hcv x hx;omega) hnx
     have:=hcl x hx
     omega
    by_cases hmem:rho (mu v) ∈ imgs need rho mu c
    ·have:=hle _ hmem;omega
    ·generalize rho (mu v)=z at ht2 hs hM hmem ⊢
     cases ht2 with
     | leaf h=>exact absurd h hmem
     | zero=>have:=J.pos;omega
     | gate hf ha hb =>
      have:=(hK.deep hD _ hM).2 hf (imgs need rho mu c) i1 (by omega) ha hb hmem (label v - 1) hle
      omega
end Mp
end Go.Proofs.Ytlaljeobdddegaa

namespace Go.Proofs.Ytlaljeobdddegaa
namespace Mp
inductive Ris:List Nat→Prop
 | nil:Ris []
 | cons {a:Nat} {l:List Nat} (h:∀ x,x ∈ l→a<x) (k:Ris l):Ris (a :: l)
theorem Ris.nodup {l:List Nat} (h:Ris l):l.Nodup:=by
 induction h with
 | nil=>exact List.nodup_nil
 | cons h _ ih=>exact List.nodup_cons.2 ⟨fun hm=>by have:=h _ hm;omega,ih⟩
def joinL:List Nat→List Nat→List Nat
 | [],b=>b
 | a :: r,[]=>a :: r
 | a :: r,b :: s=>if a<b then a :: joinL r (b :: s) else if b<a then b :: joinL (a :: r) s else a :: joinL r s
termination_by a b=>a.length+b.length
theorem joinL_mem (a b:List Nat) (x:Nat):x ∈ joinL a b↔x ∈ a∨x ∈ b:=by
 fun_induction joinL a b with
 | case1 b=>simp
 | case2 a r=>simp
 | case3 a r b s h ih=>simp only [List.mem_cons,ih];rw [or_assoc]
 | case4 a r b s h1 h2 ih=>simp only [List.mem_cons,ih];constructor <;> (intro hh;rcases hh with hh | hh | hh <;> simp_all)
 | case5 a r b s h1 h2 ih =>
  have e:a=b:=by omega
  subst e
  simp only [List.mem_cons,ih]
  constructor
  ·rintro (h | h | h)
   ·exact Or.inl (Or.inl h)
   ·exact Or.inl (Or.inr h)
   ·exact Or.inr (Or.inr h)
  ·rintro ((h | h) | (h | h))
   ·exact Or.inl h
   ·exact Or.inr (Or.inl h)
   ·exact Or.inl h
   ·exact Or.inr (Or.inr h)
theorem joinL_ris {a b:List Nat} (ha:Ris a) (hb:Ris b):Ris (joinL a b):=by
 fun_induction joinL a b with
 | case1 b=>exact hb
 | case2 a r=>exact ha
 | case3 a r b s h ih =>
  cases ha with
  | cons h1 k1 =>
   refine .cons (fun x hx=>?_) (ih k1 hb)
   rcases (joinL_mem _ _ _).1 hx with hx | hx
   ·exact h1 x hx
   ·cases hb with
    | cons h2 k2 =>
     rcases List.mem_cons.1 hx with rfl | hx
     ·exact h
     ·have:=h2 x hx;omega
 | case4 a r b s h1 h2 ih =>
  cases hb with
  | cons h3 k3 =>
   refine .cons (fun x hx=>?_) (ih ha k3)
   rcases (joinL_mem _ _ _).1 hx with hx | hx
   ·cases ha with
    | cons h4 k4 =>
     rcases List.mem_cons.1 hx with rfl | hx
     ·exact h2
     ·have:=h4 x hx;omega
   ·exact h3 x hx
 | case5 a r b s h1 h2 ih =>
  cases ha with
  | cons h3 k3 =>
   cases hb with
   | cons h4 k4 =>
    refine .cons (fun x hx=>?_) (ih k3 k4)
    rcases (joinL_mem _ _ _).1 hx with hx | hx
    ·exact h3 x hx
    ·have:=h4 x hx;omega
def wit (a b:List Nat):Bool:=a.all fun x=>b.contains x
def addC (l:List (List Nat)) (c:List Nat):List (List Nat):=if l.any (fun x=>wit x c) then l else l.filter (fun x=>!wit c x)++[c]
theorem addC_mem {l:List (List Nat)} {c x:List Nat} (h:x ∈ addC l c):x ∈ l∨x=c:=by
 unfold addC at h
 split at h
 ·exact Or.inl h
 ·rcases List.mem_append.1 h with h | h
  ·exact Or.inl (List.mem_filter.1 h).1
  ·exact Or.inr (List.mem_singleton.1 h)
theorem addC_ne (l:List (List Nat)) (c:List Nat):addC l c≠[]:=by
 unfold addC
 split
 ·rename_i h
  intro e
  rw [e] at h
  simp at h
 ·intro e
  have:=congrArg List.length e
  simp at this
def stepC (acc:List (List Nat)) (a b:List Nat):List (List Nat):=if (joinL a b).length≤4 then addC acc (joinL a b) else acc
def rowC' (acc:List (List Nat)) (a:List Nat) (y:List (List Nat)):List (List Nat):=y.foldl (fun acc b=>stepC acc a b) acc
def allC (x y:List (List Nat)):List (List Nat):=x.foldl (fun acc a=>rowC' acc a y) []
theorem stepC_mem {acc:List (List Nat)} {a b c:List Nat} (h:c ∈ stepC acc a b):c ∈ acc∨(c=joinL a b∧c.length≤4):=by
 unfold stepC at h
 split at h
 ·rename_i hl
  rcases addC_mem h with h | h
  ·exact Or.inl h
  ·exact Or.inr ⟨h,by rw [h];exact hl⟩
 ·exact Or.inl h
theorem stepC_keep {acc:List (List Nat)} (a b:List Nat) (h:acc≠[]):stepC acc a b≠[]:=by
 unfold stepC
 split
 ·exact addC_ne _ _
 ·exact h
theorem rowC_mem {a c:List Nat}:∀ (y:List (List Nat)) (acc:List (List Nat)),c ∈ rowC' acc a y→c ∈ acc∨∃ b,b ∈ y∧c=joinL a b∧c.length≤4
 | [],acc,h=>Or.inl h
 | b :: s,acc,h=>by
  rcases rowC_mem s (stepC acc a b) h with h | ⟨b',h1,h2⟩
  ·rcases stepC_mem h with h | h
   ·exact Or.inl h
   ·exact Or.inr ⟨b,List.mem_cons_self,h⟩
  ·exact Or.inr ⟨b',List.mem_cons_of_mem _ h1,h2⟩
theorem rowC_keep {a:List Nat}:∀ (y:List (List Nat)) (acc:List (List Nat)),acc≠[]→rowC' acc a y≠[]
 | [],_,h=>h
 | b :: s,acc,h=>rowC_keep s (stepC acc a b) (stepC_keep a b h)
theorem rowC_ne {a b:List Nat} (hl:(joinL a b).length≤4):∀ (y:List (List Nat)) (acc:List (List Nat)),b ∈ y→rowC' acc a y≠[]
 | b' :: s,acc,h=>by
  show rowC' (stepC acc a b') a s≠[]
  rcases List.mem_cons.1 h with rfl | h
  ·refine rowC_keep s _ ?_
   unfold stepC
   rw [if_pos hl]
   exact addC_ne _ _
  ·exact rowC_ne hl s _ h
theorem allC_mem' {c:List Nat} {y:List (List Nat)}:∀ (x:List (List Nat)) (acc:List (List Nat)),c ∈ x.foldl (fun acc a=>rowC' acc a y) acc→c ∈ acc∨∃ a b,a ∈ x∧b ∈ y∧c=joinL a b∧c.length≤4
 | [],acc,h=>Or.inl h
 | a :: r,acc,h=>by
  rcases allC_mem' r (rowC' acc a y) h with h | ⟨a',b',h1,h2⟩
  ·rcases rowC_mem y acc h with h | ⟨b,hb,hc⟩
   ·exact Or.inl h
   ·exact Or.inr ⟨a,b,List.mem_cons_self,hb,hc⟩
  ·exact Or.inr ⟨a',b',List.mem_cons_of_mem _ h1,h2⟩
theorem allC_mem {x y:List (List Nat)} {c:List Nat} (h:c ∈ allC x y):∃ a b,a ∈ x∧b ∈ y∧c=joinL a b∧c.length≤4:=by
 rcases allC_mem' x [] h with h | h
 ·cases h
 ·exact h
theorem allC_keep {y:List (List Nat)}:∀ (x:List (List Nat)) (acc:List (List Nat)),acc≠[]→x.foldl (fun acc a=>rowC' acc a y) acc≠[]
 | [],_,h=>h
 | a :: r,acc,h=>allC_keep r (rowC' acc a y) (rowC_keep y acc h)
theorem allC_ne {a b:List Nat} {y:List (List Nat)} (hb:b ∈ y) (hl:(joinL a b).length≤4):∀ (x:List (List Nat)) (acc:List (List Nat)),a ∈ x→x.foldl (fun acc a=>rowC' acc a y) acc≠[]
 | a' :: r,acc,h=>by
  show r.foldl (fun acc a=>rowC' acc a y) (rowC' acc a' y)≠[]
  rcases List.mem_cons.1 h with rfl | h
  ·exact allC_keep r _ (rowC_ne hl y acc hb)
  ·exact allC_ne hb hl r _ h
def mxC (label:Nat→Nat) (c:List Nat):Nat:=c.foldl (fun d u=>max d (label u)) 0
theorem mxC_le' (label:Nat→Nat):∀ (c:List Nat) (d:Nat),d≤c.foldl (fun d u=>max d (label u)) d∧∀ u,u ∈ c→label u≤c.foldl (fun d u=>max d (label u)) d
 | [],d=>⟨Nat.le_refl _,fun u hu=>by cases hu⟩
 | a :: r,d=>by
  obtain ⟨h1,h2⟩:=mxC_le' label r (max d (label a))
  refine ⟨Nat.le_trans (Nat.le_max_left _ _) h1,fun u hu=>?_⟩
  rcases List.mem_cons.1 hu with rfl | hu
  ·exact Nat.le_trans (Nat.le_max_right _ _) h1
  ·exact h2 u hu
theorem mxC_le (label:Nat→Nat) (c:List Nat):∀ u,u ∈ c→label u≤mxC label c:=(mxC_le' label c 0).2
def bestC (label:Nat→Nat) (l:List (List Nat)):Int:=l.foldl (fun (b:Int) c=>if b<0∨(mxC label c:Int)<b then (mxC label c:Int) else b) (-1)
theorem bestC_spec' (label:Nat→Nat):∀ (l:List (List Nat)) (b:Int),(l.foldl (fun (b:Int) c=>if b<0∨(mxC label c:Int)<b then (mxC label c:Int) else b) b=b∧(l≠[]→0≤b))∨∃ c,c ∈ l∧l.foldl (fun (b:Int) c=>if b<0∨(mxC label c:Int)<b then (mxC label c:Int) else b) b=(mxC label c:Int)
 | [],b=>Or.inl ⟨rfl,fun h=>absurd rfl h⟩
 | a :: r,b=>by
  have e:(a :: r).foldl (fun (b:Int) c=>if b<0∨(mxC label c:Int)<b then (mxC label c:Int) else b) b=r.foldl (fun (b:Int) c=>if b<0∨(mxC label c:Int)<b then (mxC label c:Int) else b) (if b<0∨(mxC label a:Int)<b then (mxC label a:Int) else b):=rfl
  rw [e]
  by_cases h:b<0∨(mxC label a:Int)<b
  ·rw [if_pos h]
   rcases bestC_spec' label r (mxC label a:Int) with ⟨h1,_⟩ | ⟨c,hc,h1⟩
   ·exact Or.inr ⟨a,List.mem_cons_self,h1⟩
   ·exact Or.inr ⟨c,List.mem_cons_of_mem _ hc,h1⟩
  ·rw [if_neg h]
   rcases bestC_spec' label r b with ⟨h1,_⟩ | ⟨c,hc,h1⟩
   ·exact Or.inl ⟨h1,fun _=>by omega⟩
   ·exact Or.inr ⟨c,List.mem_cons_of_mem _ hc,h1⟩
theorem bestC_spec (label:Nat→Nat) (l:List (List Nat)) (h:l≠[]):∃ c,c ∈ l∧bestC label l=(mxC label c:Int):=by
 rcases bestC_spec' label l (-1) with ⟨_,h2⟩ | h1
 ·have:=h2 h;omega
 ·exact h1
structure CutsD (G:Gr) (N:Nat) (cuts:Nat→List (List Nat)) (label:Nat→Nat):Prop where
 zero:cuts 0=[[]]
 src:∀ v,0<v→v<G.first→cuts v=[[v]]
 gate:∀ v,v<N→G.first≤v→cuts v=allC (cuts (G.a v)) (cuts (G.b v))++[[v]]
 lab:∀ v,v<N→G.first≤v→(label v:Int)=bestC label (allC (cuts (G.a v)) (cuts (G.b v)))+1
theorem CutsD.sound {G:Gr} {N:Nat} {cuts:Nat→List (List Nat)} {label:Nat→Nat} (h:CutsD G N cuts label) (v:Nat) (hv:v<N):(∀ c,c ∈ cuts v→Ris c∧c.length≤4∧Tl G c v∧∀ u,u ∈ c→u≤v)∧(∃ c,c ∈ cuts v∧c.length≤1):=by
 induction v using Nat.strongRecOn with
 | _ v ih =>
  by_cases h0:v=0
  ·subst h0
   rw [h.zero]
   refine ⟨fun c hc=>?_,[],List.mem_singleton.2 rfl,by simp⟩
   rw [List.mem_singleton.1 hc]
   exact ⟨.nil,by simp,.zero,fun u hu=>by cases hu⟩
  ·have hself:Ris [v]∧[v].length≤4∧Tl G [v] v∧∀ u,u ∈ [v]→u≤v:=⟨.cons (fun x hx=>by cases hx) .nil,by simp,.leaf (List.mem_singleton.2 rfl),fun u hu=>by rw [List.mem_singleton.1 hu];exact Nat.le_refl _⟩
   by_cases hg:v<G.first
   ·rw [h.src v (by omega) hg]
    exact ⟨fun c hc=>by rw [List.mem_singleton.1 hc];exact hself,[v],List.mem_singleton.2 rfl,by simp⟩
   ·have hla:=G.la v (by omega)
    have hlb:=G.lb v (by omega)
    rw [h.gate v hv (by omega)]
    refine ⟨fun c hc=>?_,[v],List.mem_append.2 (Or.inr (List.mem_singleton.2 rfl)),by simp⟩
    rcases List.mem_append.1 hc with hc | hc
    ·obtain ⟨a,b,ha,hb,rfl,hl⟩:=allC_mem hc
     obtain ⟨a1,a2,a3,a4⟩:=(ih _ hla (by omega)).1 a ha
     obtain ⟨b1,b2,b3,b4⟩:=(ih _ hlb (by omega)).1 b hb
     refine ⟨joinL_ris a1 b1,hl,.gate (by omega) (a3.mono (fun u hu=>(joinL_mem _ _ _).2 (Or.inl hu))) (b3.mono (fun u hu=>(joinL_mem _ _ _).2 (Or.inr hu))),fun u hu=>?_⟩
     rcases (joinL_mem _ _ _).1 hu with hu | hu
     ·have:=a4 u hu;omega
     ·have:=b4 u hu;omega
    ·rw [List.mem_singleton.1 hc];exact hself
theorem CutsD.label {G:Gr} {N:Nat} {cuts:Nat→List (List Nat)} {label:Nat→Nat} (h:CutsD G N cuts label):LabelD G N label:=by
 refine ⟨fun v hv hg=>?_⟩
 have hla:=G.la v hg
 have hlb:=G.lb v hg
 obtain ⟨sa,xa,hxa,hxa1⟩:=h.sound _ (show G.a v<N by omega)
 obtain ⟨sb,xb,hxb,hxb1⟩:=h.sound _ (show G.b v<N by omega)
 have hne:allC (cuts (G.a v)) (cuts (G.b v))≠[]:=by
  refine allC_ne hxb (a:=xa) ?_ _ _ hxa
  have hj:=nd_len (joinL_ris (sa xa hxa).1 (sb xb hxb).1).nodup (D:=xa++xb) (fun x hx=>List.mem_append.2 ((joinL_mem _ _ _).1 hx))
  rw [List.length_append] at hj
  omega
 obtain ⟨c,hc,hb⟩:=bestC_spec label _ hne
 have hl:=h.lab v hv hg
 rw [hb] at hl
 obtain ⟨a,b,ha,hb2,rfl,hl4⟩:=allC_mem hc
 obtain ⟨a1,a2,a3,a4⟩:=sa a ha
 obtain ⟨b1,b2,b3,b4⟩:=sb b hb2
 refine ⟨by omega,joinL a b,(joinL_ris a1 b1).nodup,hl4,fun u hu=>?_,a3.mono (fun u hu=>(joinL_mem _ _ _).2 (Or.inl hu)),b3.mono (fun u hu=>(joinL_mem _ _ _).2 (Or.inr hu)),fun u hu=>?_⟩
 ·rcases (joinL_mem _ _ _).1 hu with hu | hu
  ·have:=a4 u hu;omega
  ·have:=b4 u hu;omega
 ·have:=mxC_le label _ u hu
  omega
end Mp
end Go.Proofs.Ytlaljeobdddegaa

namespace Go.Proofs.Ytlaljeobdddegaa
namespace Mp
def toldB (K:Nat→List (List Nat)) (v:Nat) (c:List Nat):Bool:=(K v).any fun k=>wit k c
def beatsB (K:Nat→List (List Nat)) (one other:List Nat):Bool:=decide (one.length≤other.length) && other.all fun v=>toldB K v one
def keepS (K:Nat→List (List Nat)) (kept:List (List Nat)) (c:List Nat):List (List Nat):=if kept.any (fun k=>beatsB K k c) then kept else kept.filter (fun k=>!beatsB K c k)++[c]
def keepA (K:Nat→List (List Nat)) (cs:List (List Nat)):List (List Nat):=cs.foldl (keepS K) []
def cands (x y:List (List Nat)):List (List Nat):=x.flatMap fun a=>(y.map fun b=>joinL a b).filter fun c=>decide (c.length≤4)
theorem cands_mem {x y:List (List Nat)} {c:List Nat}:c ∈ cands x y↔∃ a b,a ∈ x∧b ∈ y∧c=joinL a b∧c.length≤4:=by
 unfold cands
 rw [List.mem_flatMap]
 constructor
 ·rintro ⟨a,ha,h⟩
  obtain ⟨h1,h2⟩:=List.mem_filter.1 h
  obtain ⟨b,hb,rfl⟩:=List.mem_map.1 h1
  exact ⟨a,b,ha,hb,rfl,of_decide_eq_true h2⟩
 ·rintro ⟨a,b,ha,hb,rfl,hl⟩
  exact ⟨a,ha,List.mem_filter.2 ⟨List.mem_map.2 ⟨b,hb,rfl⟩,decide_eq_true hl⟩⟩
theorem wit_sub {a b:List Nat} (h:wit a b=true):∀ x,x ∈ a→x ∈ b:=fun x hx=>by
 have:=List.all_eq_true.1 h x hx
 simpa using this
def Dom (G:Gr) (k c:List Nat):Prop:=k.length≤c.length∧TlAll G k c
theorem Dom.refl (G:Gr) (c:List Nat):Dom G c c:=⟨Nat.le_refl _,fun _ hu=>.leaf hu⟩
theorem Dom.trans {G:Gr} {a b c:List Nat} (h:Dom G a b) (k:Dom G b c):Dom G a c:=⟨Nat.le_trans h.1 k.1,h.2.trans k.2⟩
theorem beats_dom {G:Gr} {K:Nat→List (List Nat)} {n:Nat} (hs:∀ v,v<n→∀ c,c ∈ K v→Tl G c v) {one other:List Nat} (hn:∀ u,u ∈ other→u<n) (h:beatsB K one other=true):Dom G one other:=by
 unfold beatsB at h
 rw [Bool.and_eq_true] at h
 refine ⟨of_decide_eq_true h.1,fun u hu=>?_⟩
 have:=List.all_eq_true.1 h.2 u hu
 unfold toldB at this
 obtain ⟨k,hk,hw⟩:=List.any_eq_true.1 this
 exact (hs u (hn u hu) k hk).mono (wit_sub hw)
theorem keepS_mem {K:Nat→List (List Nat)} {kept:List (List Nat)} {c x:List Nat} (h:x ∈ keepS K kept c):x ∈ kept∨x=c:=by
 unfold keepS at h
 split at h
 ·exact Or.inl h
 ·rcases List.mem_append.1 h with h | h
  ·exact Or.inl (List.mem_filter.1 h).1
  ·exact Or.inr (List.mem_singleton.1 h)
theorem keepA_mem {K:Nat→List (List Nat)}:∀ (cs kept:List (List Nat)) {x:List Nat},x ∈ cs.foldl (keepS K) kept→x ∈ kept∨x ∈ cs
 | [],_,_,h=>Or.inl h
 | c :: r,kept,x,h=>by
  rcases keepA_mem r (keepS K kept c) h with h | h
  ·rcases keepS_mem h with h | rfl
   ·exact Or.inl h
   ·exact Or.inr List.mem_cons_self
  ·exact Or.inr (List.mem_cons_of_mem _ h)
theorem keepS_dom {G:Gr} {K:Nat→List (List Nat)} {n:Nat} (hs:∀ v,v<n→∀ c,c ∈ K v→Tl G c v) {kept:List (List Nat)} {c d:List Nat} (hc:∀ u,u ∈ c→u<n) (hk:∀ k,k ∈ kept→∀ u,u ∈ k→u<n) (h:(∃ k,k ∈ kept∧Dom G k d)∨d=c):∃ k,k ∈ keepS K kept c∧Dom G k d:=by
 unfold keepS
 by_cases hb:kept.any (fun k=>beatsB K k c)=true
 ·rw [if_pos hb]
  rcases h with h | rfl
  ·exact h
  ·obtain ⟨k,hk1,hk2⟩:=List.any_eq_true.1 hb
   exact ⟨k,hk1,beats_dom hs hc hk2⟩
 ·rw [if_neg hb]
  have hmem:c ∈ kept.filter (fun k=>!beatsB K c k)++[c]:=List.mem_append.2 (Or.inr (List.mem_singleton.2 rfl))
  rcases h with ⟨k,hk1,hk2⟩ | rfl
  ·by_cases hck:beatsB K c k=true
   ·exact ⟨c,hmem,(beats_dom hs (hk k hk1) hck).trans hk2⟩
   ·exact ⟨k,List.mem_append.2 (Or.inl (List.mem_filter.2 ⟨hk1,by simpa using hck⟩)),hk2⟩
  ·exact ⟨_,hmem,Dom.refl G _⟩
theorem keepA_dom {G:Gr} {K:Nat→List (List Nat)} {n:Nat} (hs:∀ v,v<n→∀ c,c ∈ K v→Tl G c v):∀ (cs kept:List (List Nat)),(∀ c,c ∈ cs→∀ u,u ∈ c→u<n)→(∀ k,k ∈ kept→∀ u,u ∈ k→u<n)→∀ d,((∃ k,k ∈ kept∧Dom G k d)∨d ∈ cs)→∃ k,k ∈ cs.foldl (keepS K) kept∧Dom G k d
 | [],kept,_,_,d,h=>by
  rcases h with h | h
  ·exact h
  ·cases h
 | c :: r,kept,hcs,hk,d,h=>by
  have hc:=hcs c List.mem_cons_self
  refine keepA_dom hs r (keepS K kept c) (fun x hx=>hcs x (List.mem_cons_of_mem _ hx)) (fun k hkm=>?_) d ?_
  ·rcases keepS_mem hkm with h | rfl
   ·exact hk k h
   ·exact hc
  ·rcases h with h | h
   ·exact Or.inl (keepS_dom hs hc hk (Or.inl h))
   ·rcases List.mem_cons.1 h with rfl | h
    ·exact Or.inl (keepS_dom hs hc hk (Or.inr rfl))
    ·exact Or.inr h
structure CutsP (G:Gr) (N:Nat) (K:Nat→List (List Nat)) (dp:Nat→Nat):Prop where
 zero:K 0=[[]]
 src:∀ v,0<v→v<G.first→K v=[[v]]
 gate:∀ v,v<N→G.first≤v→K v=[v] :: keepA K (cands (K (G.a v)) (K (G.b v)))
 d0:∀ v,v<G.first→dp v=0
 dle:∀ v,v<N→G.first≤v→∀ k,k ∈ keepA K (cands (K (G.a v)) (K (G.b v)))→dp v≤1+mxC dp k
 dex:∀ v,v<N→G.first≤v→∃ k,k ∈ keepA K (cands (K (G.a v)) (K (G.b v)))∧dp v=1+mxC dp k
theorem CutsP.sound {G:Gr} {N:Nat} {K:Nat→List (List Nat)} {dp:Nat→Nat} (h:CutsP G N K dp) (v:Nat) (hv:v<N):(∀ c,c ∈ K v→Ris c∧c.length≤4∧Tl G c v∧∀ u,u ∈ c→u≤v)∧(0<v→[v] ∈ K v)∧∀ c,G.first≤v→c ∈ keepA K (cands (K (G.a v)) (K (G.b v)))→Tl G c (G.a v)∧Tl G c (G.b v)∧∀ u,u ∈ c→u<v:=by
 induction v using Nat.strongRecOn with
 | _ v ih =>
  have hvia:∀ c,G.first≤v→c ∈ keepA K (cands (K (G.a v)) (K (G.b v)))→(Ris c∧c.length≤4)∧Tl G c (G.a v)∧Tl G c (G.b v)∧∀ u,u ∈ c→u<v:=fun c hg hc=>by
   have hla:=G.la v hg
   have hlb:=G.lb v hg
   rcases keepA_mem _ [] hc with h1 | h1
   ·cases h1
   ·obtain ⟨a,b,ha,hb,rfl,hl⟩:=cands_mem.1 h1
    obtain ⟨a1,a2,a3,a4⟩:=(ih _ hla (by omega)).1 a ha
    obtain ⟨b1,b2,b3,b4⟩:=(ih _ hlb (by omega)).1 b hb
    refine ⟨⟨joinL_ris a1 b1,hl⟩,a3.mono (fun u hu=>(joinL_mem _ _ _).2 (Or.inl hu)),b3.mono (fun u hu=>(joinL_mem _ _ _).2 (Or.inr hu)),fun u hu=>?_⟩
    rcases (joinL_mem _ _ _).1 hu with hu | hu
    ·have:=a4 u hu;omega
    ·have:=b4 u hu;omega
  have hself:Ris [v]∧[v].length≤4∧Tl G [v] v∧∀ u,u ∈ [v]→u≤v:=⟨.cons (fun x hx=>by cases hx) .nil,by simp,.leaf (List.mem_singleton.2 rfl),fun u hu=>by rw [List.mem_singleton.1 hu];exact Nat.le_refl _⟩
  refine ⟨fun c hc=>?_,fun hp=>?_,fun c hg hc=>(hvia c hg hc).2⟩
  ·by_cases h0:v=0
   ·subst h0
    rw [h.zero] at hc
    rw [List.mem_singleton.1 hc]
    exact ⟨.nil,by simp,.zero,fun u hu=>by cases hu⟩
   ·by_cases hg:v<G.first
    ·rw [h.src v (by omega) hg] at hc
     rw [List.mem_singleton.1 hc];exact hself
    ·rw [h.gate v hv (by omega)] at hc
     rcases List.mem_cons.1 hc with rfl | hc
     ·exact hself
     ·obtain ⟨⟨h1,h2⟩,h3,h4,h5⟩:=hvia c (by omega) hc
      exact ⟨h1,h2,.gate (by omega) h3 h4,fun u hu=>by have:=h5 u hu;omega⟩
  ·by_cases hg:v<G.first
   ·rw [h.src v hp hg];exact List.mem_singleton.2 rfl
   ·rw [h.gate v hv (by omega)];exact List.mem_cons_self
theorem CutsP.kept {G:Gr} {N:Nat} {K:Nat→List (List Nat)} {dp:Nat→Nat} (h:CutsP G N K dp):Kept G N K:=by
 have hin:∀ v,v<N→G.first≤v→∀ c,c ∈ K v→v ∉ c→c ∈ keepA K (cands (K (G.a v)) (K (G.b v))):=fun v hv hg c hc hvc=>by
  rw [h.gate v hv hg] at hc
  rcases List.mem_cons.1 hc with rfl | hc
  ·exact absurd (List.mem_singleton.2 rfl) hvc
  ·exact hc
 refine ⟨fun v hv c hc=>?_,by rw [h.zero];exact List.mem_singleton.2 rfl,fun v hv hp=>(h.sound v hv).2.1 hp,fun v hv hg c hc hvc=>?_,fun v hv hg x hx y hy c hc h4 hxy=>?_⟩
 ·obtain ⟨h1,h2,_⟩:=(h.sound v hv).1 c hc
  exact ⟨h1.nodup,h2⟩
 ·obtain ⟨h1,h2,_⟩:=(h.sound v hv).2.2 c hg (hin v hv hg c hc hvc)
  exact ⟨h1,h2⟩
 ·have hla:=G.la v hg
  have hlb:=G.lb v hg
  obtain ⟨x1,x2,x3,x4⟩:=(h.sound _ (show G.a v<N by omega)).1 x hx
  obtain ⟨y1,y2,y3,y4⟩:=(h.sound _ (show G.b v<N by omega)).1 y hy
  have hjr:=(joinL_ris x1 y1).nodup
  have hjl:(joinL x y).length≤c.length:=nd_len hjr (fun u hu=>(hxy u).2 ((joinL_mem _ _ _).1 hu))
  have hcm:joinL x y ∈ cands (K (G.a v)) (K (G.b v)):=cands_mem.2 ⟨x,y,hx,hy,rfl,by omega⟩
  have hlt:∀ d,d ∈ cands (K (G.a v)) (K (G.b v))→∀ u,u ∈ d→u<v:=fun d hd u hu=>by
   obtain ⟨a,b,ha,hb,rfl,_⟩:=cands_mem.1 hd
   rcases (joinL_mem _ _ _).1 hu with hu | hu
   ·have:=((h.sound _ (show G.a v<N by omega)).1 a ha).2.2.2 u hu;omega
   ·have:=((h.sound _ (show G.b v<N by omega)).1 b hb).2.2.2 u hu;omega
  obtain ⟨k,hk,hd⟩:=keepA_dom (G:=G) (K:=K) (n:=v) (fun u hu c hc=>((h.sound u (by omega)).1 c hc).2.2.1) _ [] hlt (fun k hk=>by cases hk) (joinL x y) (Or.inr hcm)
  refine ⟨k,by rw [h.gate v hv hg];exact List.mem_cons_of_mem _ hk,fun hvk=>?_,Nat.le_trans hd.1 hjl,fun u hu=>hd.2 u ((joinL_mem _ _ _).2 ((hxy u).1 hu))⟩
  have:=((h.sound v hv).2.2 k hg hk).2.2 v hvk
  omega
theorem CutsP.deep {G:Gr} {N:Nat} {K:Nat→List (List Nat)} {dp:Nat→Nat} (h:CutsP G N K dp):Deep G N K dp:=by
 have hin:∀ v,v<N→G.first≤v→∀ c,c ∈ K v→v ∉ c→c ∈ keepA K (cands (K (G.a v)) (K (G.b v))):=fun v hv hg c hc hvc=>by
  rw [h.gate v hv hg] at hc
  rcases List.mem_cons.1 hc with rfl | hc
  ·exact absurd (List.mem_singleton.2 rfl) hvc
  ·exact hc
 have hmx:∀ (c:List Nat) (m:Nat),(∀ u,u ∈ c→dp u≤m)→mxC dp c≤m:=fun c m hc=>by
  have:∀ (c:List Nat) (d:Nat),d≤m→(∀ u,u ∈ c→dp u≤m)→c.foldl (fun d u=>max d (dp u)) d≤m:=by
   intro c
   induction c with
   | nil=>intro d hd _;exact hd
   | cons a r ih=>intro d hd hc;exact ih _ (Nat.max_le.2 ⟨hd,hc a List.mem_cons_self⟩) (fun u hu=>hc u (List.mem_cons_of_mem _ hu))
  exact this c 0 (Nat.zero_le _) hc
 refine ⟨h.d0,fun v hv hg k hk hvk m hm=>?_,fun v hv hg=>?_⟩
 ·have h1:=h.dle v hv hg k (hin v hv hg k hk hvk)
  have h2:=hmx k m hm
  omega
 ·obtain ⟨k,hk,he⟩:=h.dex v hv hg
  refine ⟨by omega,k,by rw [h.gate v hv hg];exact List.mem_cons_of_mem _ hk,fun hvk=>?_,fun u hu=>by have:=mxC_le dp k u hu;omega⟩
  have:=((h.sound v hv).2.2 k hg hk).2.2 v hvk
  omega
end Mp
end Go.Proofs.Ytlaljeobdddegaa
