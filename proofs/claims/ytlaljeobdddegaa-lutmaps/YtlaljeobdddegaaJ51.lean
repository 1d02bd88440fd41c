import Derived.Test.YtlaljeobdddegaaJ50
import Derived.Test.YtlaljeobdddegaaJ22
namespace Go.Proofs.Ytlaljeobdddegaa
open Go.RowKit Mp
theorem info_r0:(Try.prog.info? 24).map (fun i=>(i.zero,i.size,i.bytes))=some (some (.slice none 0 0),1,24):=by kernel_rfl
theorem info_r:∃ i,Try.prog.info? 24=some i∧i.zero=some (.slice none 0 0)∧i.size=1∧i.bytes=24:=by
 have h:=info_r0
 cases hi:Try.prog.info? 24 with
 | none=>rw [hi] at h;cases h
 | some i=>rw [hi] at h;simp at h;exact ⟨i,rfl,h.1,h.2.1,h.2.2⟩
theorem rows_u:Try.prog.underlying 60=some (.slice 24):=Try.underlying60
theorem info_q0:(Try.prog.info? 60).map (fun i=>(i.zero,i.size,i.bytes))=some (some (.slice none 0 0),1,24):=by kernel_rfl
theorem info_q:∃ i,Try.prog.info? 60=some i∧i.zero=some (.slice none 0 0)∧i.size=1∧i.bytes=24:=by
 have h:=info_q0
 cases hi:Try.prog.info? 60 with
 | none=>rw [hi] at h;cases h
 | some i=>rw [hi] at h;simp at h;exact ⟨i,rfl,h.1,h.2.1,h.2.2⟩
theorem cuts_u:Try.prog.underlying 59=some (.slice 60):=Try.underlying59
theorem app_r (w:World) {ops:Array Oper} {rest:List Oper} {o:Oper} {a:Act} {Q:Exit→Act→World→Prop} (hgd:o.guard=none) (s x:Operand)
  (ho:o.op = .call { callee:=.builtin .append,args:=#[s,x],argTypes:=#[60,60] })
  (base:Nat) (v:Value) (n:Nat) (xs:List Value) (hs:a.eval s=v) (hown:w.ownsRow base 24 1 v n xs) (ad:Addr) (ya:Option Addr) (yl yc:Nat) (hx:a.eval x = .slice (some ad) 1 1) (hy:w.cell? ad=some (.slice ya yl yc)) (hn:n≤900000000000) (hbase:base≤w.heap.size)
  (h:∀ g cap w',w'.ownsRow base 24 1 (.slice (some ⟨g,0,none⟩) (n+1) cap) (n+1) (xs++[.slice ya yl yc])→w.grownBy w' v.ownBlock→(v.ownBlock=some g∨g=w.heap.size)→wpList Try.prog ops Q rest (a.put o.dst (.slice (some ⟨g,0,none⟩) (n+1) cap)) w'):wpList Try.prog ops Q (o :: rest) a w:=by
 obtain ⟨i,hi,hz,hsz,hby⟩:=info_r
 refine wpList_append_lies w hgd s x 60 ho base 24 i _ 1 24 rows_u hi hz hsz hby rfl (by decide) v n xs hs hown ad 1 1 [.slice ya yl yc] hx rfl (fun j u hu=>?_) (by simp [Value.oneCell']) (by decide) (by simp only [maxLen];omega) (by omega) hbase _ rfl ?_
 ·cases j with
  | zero =>
   obtain rfl:=Option.some.inj hu
   have:ad.add 0=ad:=by
    unfold Addr.add
    split <;> simp_all
   rw [this];exact hy
  | succ j=>simp at hu
 ·intro g cap w' h1 h2 h3 _
  exact h g cap w' h1 h2 h3
theorem app_q (w:World) {ops:Array Oper} {rest:List Oper} {o:Oper} {a:Act} {Q:Exit→Act→World→Prop} (hgd:o.guard=none) (s x:Operand)
  (ho:o.op = .call { callee:=.builtin .append,args:=#[s,x],argTypes:=#[59,59] })
  (base:Nat) (v:Value) (n:Nat) (xs:List Value) (hs:a.eval s=v) (hown:w.ownsRow base 60 1 v n xs) (ad:Addr) (ya:Option Addr) (yl yc:Nat) (hx:a.eval x = .slice (some ad) 1 1) (hy:w.cell? ad=some (.slice ya yl yc)) (hn:n≤900000000000) (hbase:base≤w.heap.size)
  (h:∀ g cap w',w'.ownsRow base 60 1 (.slice (some ⟨g,0,none⟩) (n+1) cap) (n+1) (xs++[.slice ya yl yc])→w.grownBy w' v.ownBlock→(v.ownBlock=some g∨g=w.heap.size)→wpList Try.prog ops Q rest (a.put o.dst (.slice (some ⟨g,0,none⟩) (n+1) cap)) w'):wpList Try.prog ops Q (o :: rest) a w:=by
 obtain ⟨i,hi,hz,hsz,hby⟩:=info_q
 refine wpList_append_lies w hgd s x 59 ho base 60 i _ 1 24 cuts_u hi hz hsz hby rfl (by decide) v n xs hs hown ad 1 1 [.slice ya yl yc] hx rfl (fun j u hu=>?_) (by simp [Value.oneCell']) (by decide) (by simp only [maxLen];omega) (by omega) hbase _ rfl ?_
 ·cases j with
  | zero =>
   obtain rfl:=Option.some.inj hu
   have:ad.add 0=ad:=by
    unfold Addr.add
    split <;> simp_all
   rw [this];exact hy
  | succ j=>simp at hu
 ·intro g cap w' h1 h2 h3 _
  exact h g cap w' h1 h2 h3
structure Hd where
 a:Option Addr
 c:Nat
 l:List Nat
def Hd.v (h:Hd):Value:=.slice h.a h.l.length h.c
def HdsAt (w:World) (hs:List Hd):Prop:=∀ h,h ∈ hs→NumR w h.a h.l∧h.l.length≤4
theorem HdsAt.to {w w':World} {hs:List Hd} (h:HdsAt w hs) (hb:Bl w w'):HdsAt w' hs:=fun x hx=>⟨(h x hx).1.to hb,(h x hx).2⟩
theorem own_g {α:Type} {g:α→Value} {w:World} {C n:Nat} {e:TypeId} {v:Value} {l:List α} (h:w.ownsRow C e 1 v n (l.map g)):∃ a c,v = .slice a n c∧n=l.length∧∀ k y,l[k]?=some y→∃ b,a=some ⟨b,0,none⟩∧w.cell? ⟨b,k,none⟩=some (g y):=by
 have hl:n=l.length:=by have:=h.1;simp at this;omega
 rcases h.2 with ⟨rfl,h0⟩ | ⟨b,cap,cur,rfl,_,hg,_,_,h3,h4⟩
 ·subst h0
  exact ⟨none,0,rfl,hl,fun k y hy=>by rw [List.eq_nil_of_length_eq_zero hl.symm] at hy;simp at hy⟩
 ·refine ⟨some ⟨b,0,none⟩,cap,rfl,hl,fun k y hy=>⟨b,rfl,?_⟩⟩
  have hk:=(List.getElem?_eq_some_iff.1 hy).1
  have h5:(l.map g)[k]?=some (g y):=by rw [List.getElem?_map,hy];rfl
  rw [←h4,List.getElem?_take_of_lt (by omega),Array.getElem?_toList] at h5
  simp [World.cell?,hg,h5]
theorem filterH_next {α:Type} (p:α→Bool) {l:List α} {k:Nat} {x:α} (h:l[k]?=some x):(l.take (k+1)).filter p=(l.take k).filter p++(if p x then [x] else []):=by
 rw [take_next _ _ _ h,List.filter_append]
 congr 1
 cases hp:p x <;> simp [hp]
set_option maxRecDepth 100000 in
set_option maxHeartbeats 8000000 in
theorem addCut_any (C:Nat) (w:World) (v:Value) (hs:List Hd) (c:Hd) (hC:C≤w.heap.size) (ho:w.ownsRow C 24 1 v hs.length (hs.map Hd.v)) (hr:HdsAt w hs) (hc:NumR w c.a c.l) (hcl:c.l.length≤4) (hlen:hs.length≤800000000000) :
  Calls Try.prog 27 #[v,c.v] w fun e w'=>∃ v' hs',e = .returned v'∧Hid (w'.ownsRow C 24 1 v' hs'.length (hs'.map Hd.v))∧Hid (hs'.map Hd.l=addC (hs.map Hd.l) c.l)∧Hid (HdsAt w' hs')∧Hid ((v'=v∧hs'=hs)∨(NewB w.heap.size v'∧∀ x,x ∈ hs'→x ∈ hs∨x=c))∧Hid (Bl w w'):=by
 obtain ⟨a,cc,rfl,_,hcell⟩:=own_g ho
 have HO:=hidden ho
 have HR:=hidden hr
 have HCN:=hidden hc
 have HW1:Hid (∀ (u:World) (h:Hd),Bl w u→h ∈ hs→Calls Try.prog 45 #[.slice h.a h.l.length h.c,.slice c.a c.l.length c.c] u fun e w'=>e = .returned (.bool (wit h.l c.l))∧Bl u w'):=fun u h hu hh=>withinD_any u _ _ _ _ _ _ ((hr h hh).1.to hu) (hc.to hu) (by have:=(hr h hh).2;omega) (by omega)
 have HW2:Hid (∀ (u:World) (h:Hd),Bl w u→h ∈ hs→Calls Try.prog 45 #[.slice c.a c.l.length c.c,.slice h.a h.l.length h.c] u fun e w'=>e = .returned (.bool (wit c.l h.l))∧Bl u w'):=fun u h hu hh=>withinD_any u _ _ _ _ _ _ (hc.to hu) ((hr h hh).1.to hu) (by omega) (by have:=(hr h hh).2;omega)
 have HCE:Hid (∀ (u:World) (k:Nat) (h:Hd),Bl w u→hs[k]?=some h→∃ b,a=some ⟨b,0,none⟩∧u.cell? ⟨b,k,none⟩=some (.slice h.a h.l.length h.c)):=fun u k h hu hh=>by
  obtain ⟨b,e,hx⟩:=hcell k h hh
  exact ⟨b,e,(hu.cell (p:=⟨b,k,none⟩) (cell_lt hx)).trans hx⟩
 obtain ⟨n,En⟩:=exh hs.length
 rw [←En.out] at HO hlen
 rw [←En.out]
 obtain ⟨ca,Eca⟩:=exh c.a
 obtain ⟨cl,Ecl⟩:=exh c.l.length
 obtain ⟨cd,Ecd⟩:=exh c.c
 rw [←Eca.out,←Ecl.out,←Ecd.out] at HW1 HW2
 unfold Hd.v
 rw [←Eca.out,←Ecl.out,←Ecd.out]
 clear ho hr hc hcell
 go_enter Try.func27,Try.ntmps27
 go_wp2_with fail
 go_loopw [5] (fun i' w'=>∃ i:Nat,i≤n∧i' = .int .i64 (i:Int)∧Hid ((hs.take i).any (fun h=>wit h.l c.l)=false)∧Hid (Bl w w')) (fun i' _=>n - (intOf i').toNat)
 case atStart=>exact ⟨0,Nat.zero_le _,rfl,(by show (hs.take 0).any _=false;rfl),Below.refl _ _⟩
 case round =>
  obtain ⟨i,hi,rfl,HN,HB⟩:=hrel
  by_cases hlt:i<n
  ·have hltI:(i:Int)<(n:Int):=by omega
   obtain ⟨h,hh⟩:=getElem_lt (show i<hs.length by rw [←En.out];exact hlt)
   obtain ⟨b,ea,cx⟩:=HCE.out wr i h HB.out hh
   have WI:=hidden (HW1.out wr h HB.out (List.mem_of_getElem? hh))
   have HH:=hidden hh
   have e2:IntKind.i64.wrap ((i:Int)+1)=(i:Int)+1:=wrapI _ (by omega) (by omega)
   subst ea
   clear hh
   go_wp2_with fail
   go_at_call 45
   refine WI.out.mono ?_
   rintro e w1 ⟨rfl,hb1⟩
   have HB1:Hid (Bl w w1):=Bl.tr HB.out hb1
   obtain ⟨r,Er⟩:=exh (wit h.l c.l)
   rw [←Er.out]
   clear hb1 WI cx
   cases r
   ·have HN2:Hid ((hs.take (i+1)).any (fun h=>wit h.l c.l)=false):=by
     show _=_
     rw [take_next _ _ _ HH.out,List.any_append,HN.out,Bool.false_or]
     show (wit h.l c.l || false)=false
     rw [←Er.out];rfl
    go_wp2
    go_roundw
    case measure=>simp [intOf];omega
    case rel=>exact ⟨i+1,by omega,by simp,HN2.out,HB1.out⟩
   ·have HAD:Hid (hs.map Hd.l=addC (hs.map Hd.l) c.l):=by
     show _=_
     unfold addC
     rw [if_pos]
     rw [List.any_map,List.any_eq_true]
     exact ⟨h,List.mem_of_getElem? HH.out,Er.out.symm⟩
    have HOF:=hidden (own_below HO.out HB1.out)
    go_wp2
    go_ret
    exact ⟨_,hs,rfl,by rw [←En.out];exact HOF.out,HAD.out,HR.out.to HB1.out,Or.inl ⟨rfl,rfl⟩,HB1.out⟩
  ·have hge:¬ (i:Int)<(n:Int):=by omega
   have HNO:Hid (addC (hs.map Hd.l) c.l=(hs.filter (fun h=>!wit c.l h.l)).map Hd.l++[c.l]):=by
    show _=_
    unfold addC
    have h0:=HN.out
    rw [List.take_of_length_le (by have:=En.out;omega)] at h0
    rw [if_neg (by rw [List.any_map];show ¬ hs.any (fun h=>wit h.l c.l)=true;rw [h0];simp),List.filter_map]
    rfl
   clear HN
   go_wp2_with fail
   go_loopw [6,7] (fun v' k' w'=>∃ k:Nat,k≤n∧k' = .int .i64 (k:Int)∧Hid (w'.ownsRow w.heap.size 24 1 v' ((hs.take k).filter (fun h=>!wit c.l h.l)).length (((hs.take k).filter (fun h=>!wit c.l h.l)).map Hd.v))∧Hid (Bl w w')) (fun _ k' _=>n - (intOf k').toNat)
   case atStart=>exact ⟨0,Nat.zero_le _,rfl,own_nil _ _ _ _,HB.out⟩
   case round =>
    clear HB
    obtain ⟨k,hk,rfl,HO2,HB⟩:=hrel
    obtain ⟨fs,Efs⟩:=exh ((hs.take k).filter (fun h=>!wit c.l h.l))
    rw [←Efs.out] at HO2
    obtain ⟨nf,Enf⟩:=exh fs.length
    rw [←Enf.out] at HO2
    have hnf:nf≤n:=by
     rw [Enf.out,Efs.out]
     refine Nat.le_trans (List.length_filter_le _ _) ?_
     rw [List.length_take];omega
    by_cases hlk:k<n
    ·have hlkI:(k:Int)<(n:Int):=by omega
     obtain ⟨h,hh⟩:=getElem_lt (show k<hs.length by rw [←En.out];exact hlk)
     obtain ⟨b,ea,cx⟩:=HCE.out wr k h HB.out hh
     have WI:=hidden (HW2.out wr h HB.out (List.mem_of_getElem? hh))
     have HH:=hidden hh
     have e2:IntKind.i64.wrap ((k:Int)+1)=(k:Int)+1:=wrapI _ (by omega) (by omega)
     have HFN:=hidden (filterH_next (fun h=>!wit c.l h.l) hh)
     have HCX:Hid (∀ u,Bl w u→u.cell? ⟨b,k,none⟩=some (.slice h.a h.l.length h.c)):=fun u hu=>by
      obtain ⟨b',e',c'⟩:=HCE.out u k h hu hh
      rw [ea] at e'
      simp only [Option.some.injEq,Addr.mk.injEq,and_true] at e'
      obtain rfl:=e'
      exact c'
     subst ea
     clear hh
     go_wp2_with fail
     go_at_call 45
     refine WI.out.mono ?_
     rintro e w1 ⟨rfl,hb1⟩
     have HB1:Hid (Bl w w1):=Bl.tr HB.out hb1
     have HO3:=hidden (own_below HO2.out hb1)
     obtain ⟨r,Er⟩:=exh (wit c.l h.l)
     rw [←Er.out]
     have cx1:=HCX.out w1 HB1.out
     clear hb1 WI cx HB HO2
     cases r
     ·have HF2:Hid ((hs.take (k+1)).filter (fun h=>!wit c.l h.l)=fs++[h]):=by
       show _=_
       rw [HFN.out,←Efs.out]
       show fs++(if !wit c.l h.l then [h] else [])=_
       rw [←Er.out];rfl
      have hsz:w.heap.size≤w1.heap.size+1:=by have:=HB1.out.size;omega
      obtain ⟨hha,Eha⟩:=exh h.a
      obtain ⟨hhl,Ehl⟩:=exh h.l.length
      obtain ⟨hhc,Ehc⟩:=exh h.c
      rw [←Eha.out,←Ehl.out,←Ehc.out] at cx1
      have HC:Hid ((w1.alloc (.cells #[.slice hha hhl hhc] 24)).cell? ⟨w1.heap.size,0,none⟩=some (.slice hha hhl hhc)):=(Blk.new w1 _ _).cell (i:=0) rfl
      have tok:True:=trivial
      go_wp2_with (have _t:=tok;at_builtin;(refine app_r _ rfl (.tmp 34) (.tmp 39) rfl w.heap.size u6 nf _ rfl (HO3.out.alloc _) ⟨w1.heap.size,0,none⟩ hha hhl hhc rfl HC.out (by omega) (by simpa using hsz) ?_;intro g6 c6 w6 hown hgrow _;have HB6:=hidden (app_bl HB1.out (own_newB HO3.out) hgrow);have HO6:=hidden hown;clear tok hown hgrow))
      go_roundw
      case measure=>simp [intOf];omega
      case rel=>exact ⟨k+1,by omega,by simp,(by rw [HF2.out,List.length_append,List.length_singleton,List.map_append,←Enf.out];show World.ownsRow _ _ _ _ _ _ (fs.map Hd.v++[.slice h.a h.l.length h.c]);rw [←Eha.out,←Ehl.out,←Ehc.out];exact HO6.out),HB6.out⟩
     ·have HF2:Hid ((hs.take (k+1)).filter (fun h=>!wit c.l h.l)=fs):=by
       show _=_
       rw [HFN.out,←Efs.out]
       show fs++(if !wit c.l h.l then [h] else [])=_
       rw [←Er.out];simp
      go_wp2
      go_roundw
      case measure=>simp [intOf];omega
      case rel=>exact ⟨k+1,by omega,by simp,(by rw [HF2.out,←Enf.out];exact HO3.out),HB1.out⟩
    ·have hgk:¬ (k:Int)<(n:Int):=by omega
     have HFA:Hid (fs=hs.filter (fun h=>!wit c.l h.l)):=by
      show _=_
      rw [Efs.out,List.take_of_length_le (by have:=En.out;omega)]
     have hsz:w.heap.size≤wr.heap.size+1:=by have:=HB.out.size;omega
     have HC:Hid ((wr.alloc (.cells #[.slice ca cl cd] 24)).cell? ⟨wr.heap.size,0,none⟩=some (.slice ca cl cd)):=(Blk.new wr _ _).cell (i:=0) rfl
     have tok:True:=trivial
     go_wp2_with (have _t:=tok;at_builtin;(refine app_r _ rfl (.tmp 41) (.tmp 43) rfl w.heap.size u6 nf _ rfl (HO2.out.alloc _) ⟨wr.heap.size,0,none⟩ ca cl cd rfl HC.out (by omega) (by simpa using hsz) ?_;intro g6 c6 w6 hown hgrow _;have HB6:=hidden (app_bl HB.out (own_newB HO2.out) hgrow);have HO6:=hidden hown;clear tok hown hgrow))
     go_ret
     exact ⟨_,rfl,fs++[c],(by rw [List.length_append,List.length_singleton,List.map_append,←Enf.out];show World.ownsRow _ _ _ _ _ _ (fs.map Hd.v++[.slice c.a c.l.length c.c]);rw [←Eca.out,←Ecl.out,←Ecd.out];exact own_mono HO6.out hC),(by rw [HNO.out,List.map_append,HFA.out];exact (rfl:_=_)),(fun x hx=>by
      rcases List.mem_append.1 hx with hx | hx
      ·rw [HFA.out] at hx
       exact HR.out.to HB6.out x (List.mem_filter.1 hx).1
      ·obtain rfl:=List.mem_singleton.1 hx
       exact ⟨HCN.out.to HB6.out,by rw [←Ecl.out];have:=Ecl.out;omega⟩),Or.inr ⟨own_newB HO6.out,fun x hx=>by
      rcases List.mem_append.1 hx with hx | hx
      ·rw [HFA.out] at hx
       exact Or.inl (List.mem_filter.1 hx).1
      ·exact Or.inr (List.mem_singleton.1 hx)⟩,HB6.out⟩
end Go.Proofs.Ytlaljeobdddegaa

namespace Go.Proofs.Ytlaljeobdddegaa
open Go.RowKit Mp
theorem getD_old {α:Type} {l:List α} {v:Nat} (h:v<l.length) (x d:α):(l++[x]).getD v d=l.getD v d:=by
 rw [List.getD_eq_getElem?_getD,List.getElem?_append_left h,←List.getD_eq_getElem?_getD]
theorem getD_new {α:Type} {l:List α} {v:Nat} (h:v=l.length) (x d:α):(l++[x]).getD v d=x:=by
 subst h
 rw [List.getD_eq_getElem?_getD,List.getElem?_concat_length];rfl
theorem mxC_same {f g:Nat→Nat}:∀ (c:List Nat) (d:Nat),(∀ u,u ∈ c→f u=g u)→c.foldl (fun d u=>max d (f u)) d=c.foldl (fun d u=>max d (g u)) d
 | [],_,_=>rfl
 | a :: r,d,h=>by
  rw [List.foldl_cons,List.foldl_cons,h a List.mem_cons_self]
  exact mxC_same r _ (fun u hu=>h u (List.mem_cons_of_mem _ hu))
theorem bestC_same {f g:Nat→Nat}:∀ (l:List (List Nat)) (b:Int),(∀ c,c ∈ l→∀ u,u ∈ c→f u=g u)→l.foldl (fun (b:Int) c=>if b<0∨(mxC f c:Int)<b then (mxC f c:Int) else b) b=l.foldl (fun (b:Int) c=>if b<0∨(mxC g c:Int)<b then (mxC g c:Int) else b) b
 | [],_,_=>rfl
 | a :: r,b,h=>by
  rw [List.foldl_cons,List.foldl_cons]
  have e:mxC f a=mxC g a:=mxC_same a 0 (h a List.mem_cons_self)
  rw [e]
  exact bestC_same r _ (fun c hc=>h c (List.mem_cons_of_mem _ hc))
theorem Mp.CutsD.ne {G:Gr} {N:Nat} {cuts:Nat→List (List Nat)} {label:Nat→Nat} (h:CutsD G N cuts label) {x y:Nat} (hx:x<N) (hy:y<N):allC (cuts x) (cuts y)≠[]:=by
 obtain ⟨sa,xa,hxa,hxa1⟩:=h.sound _ hx
 obtain ⟨sb,xb,hxb,hxb1⟩:=h.sound _ hy
 refine allC_ne hxb (a:=xa) ?_ _ _ hxa
 have hj:=nd_len (joinL_ris (sa xa hxa).1 (sb xb hxb).1).nodup (D:=xa++xb) (fun x hx=>List.mem_append.2 ((joinL_mem _ _ _).1 hx))
 rw [List.length_append] at hj
 omega
theorem Mp.CutsD.low {G:Gr} {N:Nat} {cuts:Nat→List (List Nat)} {label:Nat→Nat} (h:CutsD G N cuts label) {x y:Nat} (hx:x<N) (hy:y<N):∀ c,c ∈ allC (cuts x) (cuts y)→∀ u,u ∈ c→u<N:=fun c hc u hu=>by
 obtain ⟨a,b,ha,hb,rfl,_⟩:=allC_mem hc
 rcases (joinL_mem _ _ _).1 hu with hu | hu
 ·have:=((h.sound _ hx).1 a ha).2.2.2 u hu;omega
 ·have:=((h.sound _ hy).1 b hb).2.2.2 u hu;omega
theorem Mp.CutsD.step {G:Gr} {N:Nat} {cs:List (List (List Nat))} {ls:List Nat} (h:CutsD G N (fun v=>cs.getD v []) (fun v=>ls.getD v 0)) (l1:cs.length=N) (l2:ls.length=N) (hN:G.first≤N) {lv:Nat} (hL:(lv:Int)=bestC (fun v=>ls.getD v 0) (allC (cs.getD (G.a N) []) (cs.getD (G.b N) []))+1):CutsD G (N+1) (fun v=>(cs++[allC (cs.getD (G.a N) []) (cs.getD (G.b N) [])++[[N]]]).getD v []) (fun v=>(ls++[lv]).getD v 0):=by
 have hpos:=G.pos
 have old:∀ v,v<N→(cs++[allC (cs.getD (G.a N) []) (cs.getD (G.b N) [])++[[N]]]).getD v []=cs.getD v []:=fun v hv=>getD_old (by omega) _ _
 have oldl:∀ v,v<N→(ls++[lv]).getD v 0=ls.getD v 0:=fun v hv=>getD_old (by omega) _ _
 refine ⟨by simp only [old 0 (by omega)];exact h.zero,fun v h1 h2=>by simp only [old v (by omega)];exact h.src v h1 h2,fun v h1 h2=>?_,fun v h1 h2=>?_⟩
 ·have ha:=G.la v h2
  have hb:=G.lb v h2
  simp only [old _ (show G.a v<N by omega),old _ (show G.b v<N by omega)]
  by_cases e:v=N
  ·subst e
   rw [getD_new l1.symm]
  ·rw [old v (by omega)]
   exact h.gate v (by omega) h2
 ·have ha:=G.la v h2
  have hb:=G.lb v h2
  simp only [old _ (show G.a v<N by omega),old _ (show G.b v<N by omega)]
  have hsame:bestC (fun v=>(ls++[lv]).getD v 0) (allC (cs.getD (G.a v) []) (cs.getD (G.b v) []))=bestC (fun v=>ls.getD v 0) (allC (cs.getD (G.a v) []) (cs.getD (G.b v) [])):=bestC_same _ _ (fun c hc u hu=>oldl u (h.low (by omega) (by omega) c hc u hu))
  rw [hsame]
  by_cases e:v=N
  ·subst e
   rw [getD_new l2.symm];exact hL
  ·rw [oldl v (by omega)]
   exact h.lab v (by omega) h2
def encW (W:List Nat):List Nat→Nat
 | []=>0
 | x :: r=>(W.idxOf x+1)+(W.length+1)*encW W r
theorem encW_lt {W:List Nat}:∀ (c:List Nat),(∀ x,x ∈ c→x ∈ W)→encW W c<(W.length+1) ^ c.length
 | [],_=>by simp [encW]
 | x :: r,h=>by
  have ih:=encW_lt r (fun y hy=>h y (List.mem_cons_of_mem _ hy))
  have hx:=List.idxOf_lt_length_of_mem (h x List.mem_cons_self)
  rw [encW,List.length_cons,Nat.pow_succ]
  have:(W.length+1)*(encW W r+1)≤(W.length+1)*(W.length+1) ^ r.length:=Nat.mul_le_mul_left _ ih
  rw [Nat.mul_add,Nat.mul_one] at this
  rw [Nat.mul_comm ((W.length+1) ^ r.length)]
  omega
theorem encW_inj {W:List Nat}:∀ (c d:List Nat),(∀ x,x ∈ c→x ∈ W)→(∀ x,x ∈ d→x ∈ W)→encW W c=encW W d→c=d
 | [],[],_,_,_=>rfl
 | [],y :: s,_,_,h=>by simp [encW] at h;omega
 | x :: r,[],_,_,h=>by simp [encW] at h
 | x :: r,y :: s,h1,h2,h=>by
  have hx:=List.idxOf_lt_length_of_mem (h1 x List.mem_cons_self)
  have hy:=List.idxOf_lt_length_of_mem (h2 y List.mem_cons_self)
  rw [encW,encW] at h
  have hm:=congrArg (· % (W.length+1)) h
  have hd:=congrArg (· / (W.length+1)) h
  simp only [Nat.add_mul_mod_self_left] at hm
  rw [Nat.add_mul_div_left _ _ (by omega),Nat.add_mul_div_left _ _ (by omega)] at hd
  by_cases hw:W.idxOf x+1<W.length+1
  ·rw [Nat.mod_eq_of_lt hw,Nat.mod_eq_of_lt (by omega)] at hm
   rw [Nat.div_eq_of_lt hw,Nat.div_eq_of_lt (by omega),Nat.zero_add,Nat.zero_add] at hd
   have e1:W.idxOf x=W.idxOf y:=by omega
   have e2:x=y:=by
    have hxe:=List.getElem_idxOf hx
    have hye:=List.getElem_idxOf hy
    rw [←hxe,←hye]
    simp only [e1]
   rw [e2,encW_inj r s (fun z hz=>h1 z (List.mem_cons_of_mem _ hz)) (fun z hz=>h2 z (List.mem_cons_of_mem _ hz)) hd]
  ·omega
theorem cuts_few {W:List Nat} {L:List (List Nat)} (hn:L.Nodup) (h:∀ c,c ∈ L→c.length≤4∧∀ x,x ∈ c→x ∈ W):L.length≤(W.length+1) ^ 4:=by
 have h1:(L.map (encW W)).Nodup:=by
  rw [List.nodup_iff_pairwise_ne,List.pairwise_map]
  refine (List.pairwise_iff_forall_sublist.2 fun {a b} hab hne=>?_)
  have hp:=(List.nodup_iff_pairwise_ne.1 hn)
  have:=List.pairwise_iff_forall_sublist.1 hp hab
  have ma:=hab.subset (List.mem_cons_self)
  have mb:=hab.subset (List.mem_cons_of_mem _ List.mem_cons_self)
  exact this (encW_inj a b (h a ma).2 (h b mb).2 hne)
 have h2:=nd_len h1 (D:=List.range ((W.length+1) ^ 4)) (fun x hx=>by
  obtain ⟨c,hc,rfl⟩:=List.mem_map.1 hx
  refine List.mem_range.2 (Nat.lt_of_lt_of_le (encW_lt c (h c hc).2) ?_)
  exact Nat.pow_le_pow_right (by omega) (h c hc).1)
 rw [List.length_map,List.length_range] at h2
 exact h2
theorem wit_self (c:List Nat):wit c c=true:=by
 unfold wit
 rw [List.all_eq_true]
 intro x hx
 simpa using hx
theorem addC_nodup {l:List (List Nat)} {c:List Nat} (h:l.Nodup):(addC l c).Nodup:=by
 unfold addC
 split
 ·exact h
 ·rename_i hc
  refine List.nodup_append.2 ⟨h.filter _,by simp,fun x hx y hy=>?_⟩
  obtain rfl:=List.mem_singleton.1 hy
  rintro rfl
  apply hc
  rw [List.any_eq_true]
  exact ⟨x,(List.mem_filter.1 hx).1,wit_self x⟩
structure AccI (W:List Nat) (l:List (List Nat)):Prop where
 nd:l.Nodup
 ok:∀ c,c ∈ l→c.length≤4∧∀ x,x ∈ c→x ∈ W
theorem AccI.nil (W:List Nat):AccI W []:=⟨List.nodup_nil,fun c hc=>absurd hc (by simp)⟩
theorem AccI.step {W:List Nat} {l:List (List Nat)} (h:AccI W l) {a b:List Nat} (ha:∀ x,x ∈ a→x ∈ W) (hb:∀ x,x ∈ b→x ∈ W):AccI W (Mp.stepC l a b):=by
 unfold Mp.stepC
 split
 ·rename_i hl
  refine ⟨addC_nodup h.nd,fun c hc=>?_⟩
  rcases addC_mem hc with hc | rfl
  ·exact h.ok c hc
  ·refine ⟨hl,fun x hx=>?_⟩
   rcases (joinL_mem _ _ _).1 hx with hx | hx
   ·exact ha x hx
   ·exact hb x hx
 ·exact h
theorem AccI.len {W:List Nat} {l:List (List Nat)} (h:AccI W l) (hW:W.length≤450):l.length≤41371966801:=by
 refine Nat.le_trans (cuts_few h.nd h.ok) ?_
 have:(W.length+1) ^ 4≤451 ^ 4:=Nat.pow_le_pow_left (by omega) 4
 omega
def namW (F:Nat) (ands:List AndD):List Nat:=(List.range ands.length).flatMap fun k=>[F+k,grA F ands (F+k),grB F ands (F+k)]
theorem namW_len (F:Nat) (ands:List AndD):(namW F ands).length=3*ands.length:=by
 have key:∀ l:List Nat,(l.flatMap fun k=>[F+k,grA F ands (F+k),grB F ands (F+k)]).length=3*l.length:=by
  intro l
  induction l with
  | nil=>rfl
  | cons a r ih=>rw [List.flatMap_cons,List.length_append,ih];simp;omega
 unfold namW
 rw [key,List.length_range]
theorem namW_mem {F:Nat} {ands:List AndD} {k:Nat} (h:k<ands.length):F+k ∈ namW F ands∧grA F ands (F+k) ∈ namW F ands∧grB F ands (F+k) ∈ namW F ands:=by
 have:∀ x,x ∈ [F+k,grA F ands (F+k),grB F ands (F+k)]→x ∈ namW F ands:=fun x hx=>List.mem_flatMap.2 ⟨k,List.mem_range.2 h,hx⟩
 exact ⟨this _ (by simp),this _ (by simp),this _ (by simp)⟩
theorem mxC_most {label:Nat→Nat} {M:Nat} (h:∀ u,label u≤M):∀ (c:List Nat) (d:Nat),d≤M→c.foldl (fun d u=>max d (label u)) d≤M
 | [],_,hd=>hd
 | a :: r,d,hd=>by
  rw [List.foldl_cons]
  exact mxC_most h r _ (by have:=h a;omega)
end Go.Proofs.Ytlaljeobdddegaa

namespace Go.Proofs.Ytlaljeobdddegaa
open Go.RowKit Mp
theorem cell_same {w w':World} {b:Nat} (h:w'.heap[b]?=w.heap[b]?) (i:Nat):w'.cell? ⟨b,i,none⟩=w.cell? ⟨b,i,none⟩:=by
 simp [World.cell?,h]
def NumX (w:World) (X:Nat→Prop) (a:Option Addr) (l:List Nat):Prop:=∀ (k x:Nat),l[k]?=some x→∃ b o,a=some ⟨b,o,none⟩∧¬ X b∧w.cell? ⟨b,o+k,none⟩=some (.int .i64 (x:Nat))
structure Qd where
 a:Option Addr
 c:Nat
 hs:List Hd
def Qd.v (q:Qd):Value:=.slice q.a q.hs.length q.c
def Qd.ls (q:Qd):List (List Nat):=q.hs.map Hd.l
structure QX (w:World) (X:Nat→Prop) (q:Qd):Prop where
 r:∀ (k:Nat) (h:Hd),q.hs[k]?=some h→∃ b o,q.a=some ⟨b,o,none⟩∧¬ X b∧w.cell? ⟨b,o+k,none⟩=some h.v
 h:∀ h,h ∈ q.hs→NumX w X h.a h.l∧h.l.length≤4
theorem NumX.move {w w':World} {X X':Nat→Prop} {a:Option Addr} {l:List Nat} (h:NumX w X a l) (hb:∀ b,b<w.heap.size→¬ X b→w'.heap[b]?=w.heap[b]?) (hx:∀ b,b<w.heap.size→¬ X b→¬ X' b):NumX w' X' a l:=fun k x hk=>by
 obtain ⟨b,o,e,nx,c⟩:=h k x hk
 exact ⟨b,o,e,hx b (cell_lt c) nx,(cell_same (hb b (cell_lt c) nx) _).trans c⟩
theorem QX.move {w w':World} {X X':Nat→Prop} {q:Qd} (h:QX w X q) (hb:∀ b,b<w.heap.size→¬ X b→w'.heap[b]?=w.heap[b]?) (hx:∀ b,b<w.heap.size→¬ X b→¬ X' b):QX w' X' q:=by
 refine ⟨fun k h' hk=>?_,fun h' hh=>⟨(h.h h' hh).1.move hb hx,(h.h h' hh).2⟩⟩
 obtain ⟨b,o,e,nx,c⟩:=h.r k h' hk
 exact ⟨b,o,e,hx b (cell_lt c) nx,(cell_same (hb b (cell_lt c) nx) _).trans c⟩
theorem NumX.num {w:World} {X:Nat→Prop} {a:Option Addr} {l:List Nat} (h:NumX w X a l):NumR w a l:=fun k x hk=>by
 obtain ⟨b,o,e,_,c⟩:=h k x hk
 exact ⟨b,o,e,c⟩
def XB (cv lv:Value) (b:Nat):Prop:=cv.ownBlock=some b∨lv.ownBlock=some b
structure LsAt (C:Nat) (w:World) (cv lv:Value) (qs:List Qd) (ls:List Nat):Prop where
 oc:w.ownsRow C 60 1 cv qs.length (qs.map Qd.v)
 ol:w.ownsRow C 3 1 lv ls.length (ls.map nV)
 far:FaV cv lv
 q:∀ q,q ∈ qs→QX w (XB cv lv) q
 le:C≤w.heap.size
def Grw (H:Nat) (v v':Value):Prop:=v'.ownBlock=v.ownBlock∨∃ s,H≤s∧v'.ownBlock=some s
theorem Grw.old {H:Nat} {v v':Value} (h:Grw H v v') {b:Nat} (hb:b<H) (hn:¬ v.ownBlock=some b):¬ v'.ownBlock=some b:=by
 rcases h with h | ⟨s,hs,h⟩
 ·rw [h];exact hn
 ·rw [h];intro e;have:=Option.some.inj e;omega
theorem LsAt.next {C:Nat} {w w':World} {cv lv cv' lv':Value} {qs:List Qd} {ls:List Nat} {q:Qd} {x:Nat} (h:LsAt C w cv lv qs ls) (hb:∀ b,b<w.heap.size→¬ XB cv lv b→w'.heap[b]?=w.heap[b]?) (g1:Grw w.heap.size cv cv') (g2:Grw w.heap.size lv lv') (oc:w'.ownsRow C 60 1 cv' (qs.length+1) (qs.map Qd.v++[q.v])) (ol:w'.ownsRow C 3 1 lv' (ls.length+1) (ls.map nV++[nV x])) (far:FaV cv' lv') (hq:QX w' (XB cv' lv') q) (hs:w.heap.size≤w'.heap.size):LsAt C w' cv' lv' (qs++[q]) (ls++[x]):=by
 refine ⟨by rw [List.length_append,List.map_append];exact oc,by rw [List.length_append,List.map_append];exact ol,far,fun r hr=>?_,Nat.le_trans h.le hs⟩
 rcases List.mem_append.1 hr with hr | hr
 ·refine (h.q r hr).move hb (fun b hb1 hn=>?_)
  rintro (e | e)
  ·exact g1.old hb1 (fun e'=>hn (Or.inl e')) e
  ·exact g2.old hb1 (fun e'=>hn (Or.inr e')) e
 ·obtain rfl:=List.mem_singleton.1 hr
  exact hq
theorem QX.one {w:World} {X:Nat→Prop} {x1 x2 v:Nat} {t1 t2:TypeId} (h1:Blk w x1 t1 #[.int .i64 (v:Nat)]) (h2:Blk w x2 t2 #[.slice (some ⟨x1,0,none⟩) 1 1]) (n1:¬ X x1) (n2:¬ X x2):QX w X ⟨some ⟨x2,0,none⟩,1,[⟨some ⟨x1,0,none⟩,1,[v]⟩]⟩:=by
 refine ⟨fun k h hk=>?_,fun h hh=>?_⟩
 ·cases k with
  | zero =>
   obtain rfl:=Option.some.inj hk
   exact ⟨x2,0,rfl,n2,h2.cell (i:=0) rfl⟩
  | succ k=>simp at hk
 ·obtain rfl:=List.mem_singleton.1 hh
  refine ⟨fun k x hk=>?_,by simp⟩
  cases k with
  | zero =>
   obtain rfl:=Option.some.inj hk
   exact ⟨x1,0,rfl,n1,h1.cell (i:=0) rfl⟩
  | succ k=>simp at hk
theorem QX.zero {w:World} {X:Nat→Prop} {x2:Nat} {t2:TypeId} (h2:Blk w x2 t2 #[.slice none 0 0]) (n2:¬ X x2):QX w X ⟨some ⟨x2,0,none⟩,1,[⟨none,0,[]⟩]⟩:=by
 refine ⟨fun k h hk=>?_,fun h hh=>?_⟩
 ·cases k with
  | zero =>
   obtain rfl:=Option.some.inj hk
   exact ⟨x2,0,rfl,n2,h2.cell (i:=0) rfl⟩
  | succ k=>simp at hk
 ·obtain rfl:=List.mem_singleton.1 hh
  exact ⟨fun k x hk=>by simp at hk,by simp⟩
theorem grow_two {w w1 w2 w3 w4:World} {ra rb:Option Nat} (h1:Bl w w1) (h2:w1.grownBy w2 ra) (h3:Bl w2 w3) (h4:w3.grownBy w4 rb):∀ b,b<w.heap.size→some b≠ra→some b≠rb→w4.heap[b]?=w.heap[b]?:=fun b hb na nb=>by
 have s1:=h1.size
 have s2:=h2.size
 have s3:=h3.size
 exact (h4.block b (by omega) nb).trans ((h3.block b (by omega)).trans ((h2.block b (by omega) na).trans (h1.block b hb)))
def lstV (F:Nat) (label:Nat→Nat) (es:List Int):Nat:=es.foldl (fun d x=>max d (dofL F label x.toNat)) 0
theorem lstV_next {F:Nat} {label:Nat→Nat} {es:List Int} {k:Nat} {x:Int} (h:es[k]?=some x):lstV F label (es.take (k+1))=max (lstV F label (es.take k)) (dofL F label x.toNat):=by
 unfold lstV;rw [take_next _ _ _ h,List.foldl_append];rfl
end Go.Proofs.Ytlaljeobdddegaa

namespace Go.Proofs.Ytlaljeobdddegaa
open Go.RowKit Mp
theorem run_same {G H:GrD} (hl:H.lats.length=G.lats.length) (h:∀ row st,st.length=G.lats.length→outN H (cycN H row st)=outN G (cycN G row st)∧nextN H (cycN H row st)=nextN G (cycN G row st)):∀ (tr:List (List Bool)) (st:List Bool),st.length=G.lats.length→runN H tr st=runN G tr st
 | [],_,_=>rfl
 | r :: tr,st,hs=>by
  have h1:=h r st hs
  show outN H (cycN H r st) :: runN H tr (nextN H (cycN H r st))=outN G (cycN G r st) :: runN G tr (nextN G (cycN G r st))
  rw [h1.1,h1.2,run_same hl h tr _ (by unfold nextN;rw [List.length_map])]
theorem laid_cyc {J:GrD} {ni n:Nat} (hJ:FineG J ni n) {U:Nat→Nat} {sg:Nat→Int} {NL:NetL} {Y:Nat→Prop} {wd:Nat→Bool} (hL:LayI (ValG (grG hJ) (iaG J) (ibG J) n) (firstN J) n U wd NL sg Y) {x:Int} (h0:0≤x) (h1:x<2*(n:Int)) (hs:sg x.toNat≠-1) (row st:List Bool) (hst:st.length=J.lats.length):L.sV (L.tabsN ([false,true]++L.inRow J.ins.toNat row++st) NL.tabs) (sg x.toNat)=litV (cycN J row st) x:=by
 have f1:=hJ.first
 have f2:=hJ.all
 have hins:=hJ.ins
 have hlen:(inRow J.ins.toNat row++st).length=firstN J - 1:=by
  rw [List.length_append,inRow_length,hst,hins];omega
 have hv0:([false]++inRow J.ins.toNat row++st).length=firstN J:=by
  simp only [List.length_append,List.length_cons,List.length_nil,inRow_length,hst]
  rw [f1,hins];omega
 have hb:BaseV (firstN J) ([false,true]++L.inRow J.ins.toNat row++st) (fun v=>(cycN J row st)[v]?.getD false):=by
  refine ⟨?_,rfl,rfl,fun v a b=>?_⟩
  ·show (false :: true :: (inRow J.ins.toNat row++st)).length=_
   rw [List.length_cons,List.length_cons,hlen];omega
  ·obtain ⟨u,rfl⟩:∃ u,v=u+1:=⟨v - 1,by omega⟩
   show (false :: true :: (inRow J.ins.toNat row++st))[u+1+1]?=_
   rw [List.getElem?_cons_succ,List.getElem?_cons_succ]
   show _=some ((andsN ([false]++inRow J.ins.toNat row++st) J.ands)[u+1]?.getD false)
   rw [ands_base _ (by rw [hv0];exact b)]
   show _=some ((false :: (inRow J.ins.toNat row++st))[u+1]?.getD false)
   rw [List.getElem?_cons_succ,List.getElem?_eq_getElem (by rw [hlen];omega)];rfl
 have hval:ValG (grG hJ) (iaG J) (ibG J) n (fun v=>(cycN J row st)[v]?.getD false):=by
  refine ⟨?_,fun v hv hg=>?_⟩
  ·show (andsN ([false]++inRow J.ins.toNat row++st) J.ands)[0]?.getD false=false
   rw [ands_base _ (by rw [hv0];omega)];rfl
  ·have hg':firstN J≤v:=hg
   obtain ⟨k,rfl⟩:∃ k,v=firstN J+k:=⟨v - firstN J,by omega⟩
   obtain ⟨d,hd⟩:=getElem_lt (show k<J.ands.length by omega)
   obtain ⟨ea,eb⟩:=grA_at (first:=firstN J) hd
   have e1:iaG J (firstN J+k)=decide (d.x % 2=1):=by unfold iaG;rw [Nat.add_sub_cancel_left,hd]
   have e2:ibG J (firstN J+k)=decide (d.y % 2=1):=by unfold ibG;rw [Nat.add_sub_cancel_left,hd]
   show (cycN J row st)[firstN J+k]?.getD false=(((cycN J row st)[grA (firstN J) J.ands (firstN J+k)]?.getD false != iaG J (firstN J+k)) && ((cycN J row st)[grB (firstN J) J.ands (firstN J+k)]?.getD false != ibG J (firstN J+k)))
   rw [ea,eb,e1,e2]
   unfold cycN
   rw [ands_val hJ.ands hv0 hd];rfl
 rw [(hL.sig x.toNat (by omega) hs).val _ _ hb hval]
 unfold litW litV
 rw [show (x / 2).toNat=x.toNat / 2 by omega]
 congr 1
 exact decide_eq_decide.2 (by omega)
theorem dsN_base (n0:Nat) (tabs:List L.TbD) {i:Nat} (hi:i<n0):(L.dsN n0 tabs).getD i 0=0:=by
 have key:∀ k,k≤tabs.length→(L.dsN n0 (tabs.take k)).getD i 0=0:=by
  intro k
  induction k with
  | zero =>
   intro _
   show (List.replicate n0 (0:Int)).getD i 0=0
   rw [List.getD_eq_getElem?_getD,List.getElem?_replicate,if_pos hi];rfl
  | succ k ih =>
   intro hk
   obtain ⟨d,hd⟩:=getElem_lt (show k<tabs.length by omega)
   rw [take_next _ _ _ hd,L.dsN_snoc,getD_old (by rw [L.dsN_len];omega)]
   exact ih (by omega)
 have:=key tabs.length (Nat.le_refl _)
 rwa [List.take_length] at this
theorem lstV_ge' (F:Nat) (label:Nat→Nat):∀ (l:List Int) (d:Nat),d≤l.foldl (fun d x=>max d (dofL F label x.toNat)) d∧∀ x,x ∈ l→dofL F label x.toNat≤l.foldl (fun d x=>max d (dofL F label x.toNat)) d
 | [],d=>⟨Nat.le_refl _,fun x hx=>absurd hx (by simp)⟩
 | a :: r,d=>by
  have ih:=lstV_ge' F label r (max d (dofL F label a.toNat))
  rw [List.foldl_cons]
  refine ⟨by omega,fun x hx=>?_⟩
  rcases List.mem_cons.1 hx with rfl | hx
  ·omega
  ·exact ih.2 x hx
theorem endL_hash (G:GrD):endL (hashG G)=(endL G).map (renL (hashK (firstN G) G.ands).2):=by
 unfold endL
 rw [List.map_append]
 show G.outs.map _++(G.lats.map _).map LatD.next=_
 rw [List.map_map,List.map_map];rfl
theorem endL_clean (G:GrD):endL (cleanOf G)=(endL G).map (litC (firstN G) (nkOf G)):=by
 unfold endL
 rw [List.map_append]
 show G.outs.map _++(G.lats.map _).map LatD.next=_
 rw [List.map_map,List.map_map];rfl
theorem first_hash (G:GrD):firstN (hashG G)=firstN G:=by
 show 1+G.ins.toNat+(G.lats.map _).length=1+G.ins.toNat+G.lats.length
 rw [List.length_map]
theorem hash_mapG {G:GrD} {ni n nH:Nat} (hF:FineG G ni n) (hH:FineG (hashG G) ni nH):HashM (grG hF) (grG hH) n (muH (hashK (firstN G) G.ands).2):=by
 have hf:0<firstN G:=by unfold firstN;omega
 have e:=first_hash G
 have hlow:AndsLow (firstN G) (hashG G).ands:=by have:=hH.ands;rw [e] at this;exact this
 have hm:=hash_map hf hF.ands (hs:=(hashG G).ands) hlow (gates_all hf G.ands hF.ands)
 have hall:=hF.all
 refine ⟨hm.zero,fun v hv=>?_,fun v hv hg=>?_⟩
 ·show _<firstN (hashG G)
  rw [e];exact hm.src v hv
 ·have:=hm.gate v (by omega) hg
  show _∨_∨_∨(firstN (hashG G)≤_∧((grA (firstN (hashG G)) (hashG G).ands _=_∧grB (firstN (hashG G)) (hashG G).ands _=_)∨(grA (firstN (hashG G)) (hashG G).ands _=_∧grB (firstN (hashG G)) (hashG G).ands _=_)))
  rw [e]
  exact this
end Go.Proofs.Ytlaljeobdddegaa
