import Derived.Test.YtlaljeobdddegaaJ29
import Derived.Laws.BitsAllLaws
import Derived.Laws.BitsLemmas
namespace Go.Proofs.Ytlaljeobdddegaa
open Go.RowKit Mp
theorem wrapU (x:Int) (h0:0≤x) (h1:x<18446744073709551616):IntKind.u64.wrap x=x:=by rw [IntKind.wrap_u64];omega
theorem Mp.Ris.lt {l:List Nat} (h:Ris l):∀ {i j x y:Nat},i<j→l[i]?=some x→l[j]?=some y→x<y:=by
 induction h with
 | nil=>intro i j x y _ hx;simp at hx
 | @cons a l ha hl ih =>
  intro i j x y hij hx hy
  cases j with
  | zero=>omega
  | succ j =>
   cases i with
   | zero =>
    have e:a=x:=by simpa using hx
    rw [←e]
    exact ha y (List.mem_of_getElem? (by simpa using hy))
   | succ i=>exact ih (i:=i) (j:=j) (by omega) (by simpa using hx) (by simpa using hy)
structure Spot (l:List Nat) (x at_:Nat):Prop where
 le:at_≤l.length
 lo:∀ k y,k<at_→l[k]?=some y→y<x
 hi:∀ k y,at_≤k→l[k]?=some y→x≤y
set_option maxRecDepth 100000 in
set_option maxHeartbeats 8000000 in
theorem search_any (w:World) (la:Option Addr) (lc:Nat) (l:List Nat) (x:Nat) (hl:l.length≤1000000) (hr:NumR w la l) (hs:Ris l) :
  Calls Try.prog 76 #[.slice la l.length lc,.int .i64 (x:Nat)] w fun e w'=>∃ p:Nat,Hid (Spot l x p)∧e = .returned (.tuple #[.int .i64 (p:Nat),.bool (decide (x ∈ l))])∧w'=w:=by
 have HR:=hidden hr
 have HS:=hidden hs
 obtain ⟨ln,Eln⟩:=exh l.length
 rw [←Eln.out] at hl
 rw [←Eln.out]
 have LE:Hid (∀ y:Nat,Calls Try.prog 79 #[.int .i64 (y:Int),.int .i64 (x:Int)] w fun e w'=>e = .returned (.bool (decide ((y:Int)<(x:Int))))∧w'=w):=fun y=>less_any w y x
 have NA:Hid (∀ y:Nat,Calls Try.prog 80 #[.int .i64 (y:Int)] w fun e w'=>e = .returned (.bool false)∧w'=w):=fun y=>nanS_any w y
 clear hr hs
 go_enter Try.func76,Try.ntmps76
 go_wp2_with fail
 go_loopw [7,8,9] (fun i' j' _ w'=>∃ i j:Nat,i≤j∧j≤ln∧i' = .int .i64 (i:Int)∧j' = .int .i64 (j:Int)∧Hid (∀ k y,k<i→l[k]?=some y→y<x)∧Hid (∀ k y,j≤k→l[k]?=some y→x≤y)∧Hid (w'=w)) (fun i' j' _ _=>(intOf j').toNat - (intOf i').toNat)
 case atStart=>exact ⟨0,ln,Nat.zero_le _,Nat.le_refl _,rfl,rfl,fun k y hk=>by omega,fun k y hk hy=>by have h1:=(List.getElem?_eq_some_iff.1 hy).1;have h2:=Eln.out;omega,rfl⟩
 case round =>
  obtain ⟨i,j,hij,hj,rfl,rfl,HLO,HHI,HW⟩:=hrel
  obtain rfl:=HW.out
  clear HW
  by_cases hlt:i<j
  ·have hltI:(i:Int)<(j:Int):=by omega
   obtain ⟨h,Hh⟩:=exh ((i+j) / 2)
   have hh1:i≤h:=by have:=Hh.out;omega
   have hh2:h<j:=by have:=Hh.out;omega
   obtain ⟨y,hy⟩:=getElem_lt (show h<l.length by rw [←Eln.out];omega)
   obtain ⟨b,o,ea,cx⟩:=HR.out h y hy
   have HY:=hidden hy
   have e1:IntKind.i64.wrap ((i:Int)+(j:Int))=(i:Int)+(j:Int):=wrapI _ (by omega) (by omega)
   have e2:IntKind.u64.wrap ((i:Int)+(j:Int))=(i:Int)+(j:Int):=wrapU _ (by omega) (by omega)
   have e3:((i:Int)+(j:Int)) / 2=(h:Int):=by have:=Hh.out;omega
   have e4:IntKind.u64.wrap (h:Int)=(h:Int):=wrapU _ (by omega) (by omega)
   have e5:IntKind.i64.wrap (h:Int)=(h:Int):=wrapI _ (by omega) (by omega)
   have e6:IntKind.i64.wrap ((h:Int)+1)=((h+1:Nat):Int):=by rw [wrapI _ (by omega) (by omega)];omega
   have hhI:(h:Int)<(ln:Int):=by omega
   subst ea
   clear hy
   by_cases hyx:y<x
   ·have hyI:(y:Int)<(x:Int):=by omega
    go_wp2_with (go_at_call 79;refine (LE.out y).mono ?_;rintro e v ⟨rfl,hv⟩;rw [hv];clear hv v)
    go_roundw
    case measure=>simp [intOf];omega
    case rel=>exact ⟨h+1,j,by omega,hj,by simp,rfl,fun k z hk hz=>by
     by_cases e:k=h
     ·subst e;rw [HY.out] at hz;obtain rfl:=Option.some.inj hz;exact hyx
     ·have:=HS.out.lt (show k<h by omega) hz HY.out;omega,HHI.out,True.intro⟩
   ·have hyI:¬ (y:Int)<(x:Int):=by omega
    go_wp2_with (go_at_call 79;refine (LE.out y).mono ?_;rintro e v ⟨rfl,hv⟩;rw [hv];clear hv v)
    go_roundw
    case measure=>simp [intOf];omega
    case rel=>exact ⟨i,h,hh1,by omega,rfl,rfl,HLO.out,fun k z hk hz=>by
     by_cases e:k=h
     ·subst e;rw [HY.out] at hz;obtain rfl:=Option.some.inj hz;omega
     ·have:=HS.out.lt (show h<k by omega) HY.out hz;omega,True.intro⟩
  ·obtain rfl:i=j:=by omega
   have hltI:¬ (i:Int)<(i:Int):=by omega
   have HSP:Hid (Spot l x i):=⟨by rw [←Eln.out];exact hj,HLO.out,HHI.out⟩
   by_cases hin:i<ln
   ·have hinI:(i:Int)<(ln:Int):=by omega
    obtain ⟨y,hy⟩:=getElem_lt (show i<l.length by rw [←Eln.out];omega)
    obtain ⟨b,o,ea,cx⟩:=HR.out i y hy
    have HY:=hidden hy
    have HM:Hid (x ∈ l↔y=x):=⟨fun hm=>by
     obtain ⟨k,hk⟩:=List.getElem?_of_mem hm
     have h1:=HHI.out i y (Nat.le_refl _) HY.out
     by_cases e:k<i
     ·have:=HLO.out k x e hk;omega
     ·by_cases e2:k=i
      ·subst e2;rw [HY.out] at hk;exact Option.some.inj hk
      ·have:=HS.out.lt (show i<k by omega) HY.out hk;omega,fun e=>by rw [←e];exact List.mem_of_getElem? HY.out⟩
    subst ea
    clear hy
    by_cases e:y=x
    ·have eI:(y:Int)=(x:Int):=by omega
     have HM2:Hid (x ∈ l):=HM.out.2 e
     clear HM
     subst e
     go_wp2
     go_ret2
     exact ⟨i,HSP.out,by rw [decide_eq_true HM2.out];rfl,rfl⟩
    ·have eI:¬ (y:Int)=(x:Int):=by omega
     have HM2:Hid (x ∉ l):=fun h=>e (HM.out.1 h)
     have eb:((y:Int) == (x:Int))=false:=beq_eq_false_iff_ne.2 eI
     clear HM e
     go_wp2_with (go_at_call 80;refine (NA.out y).mono ?_;rintro e v ⟨rfl,hv⟩;rw [hv];clear hv v)
     go_ret2
     exact ⟨i,HSP.out,by rw [decide_eq_false HM2.out];rfl,rfl⟩
   ·obtain rfl:i=ln:=by omega
    have HM2:Hid (x ∉ l):=fun hm=>by
     obtain ⟨k,hk⟩:=List.getElem?_of_mem hm
     have h1:=(List.getElem?_eq_some_iff.1 hk).1
     have:=HLO.out k x (by have:=Eln.out;omega) hk
     omega
    go_wp2
    go_ret2
    exact ⟨i,HSP.out,by rw [decide_eq_false HM2.out];rfl,rfl⟩
end Go.Proofs.Ytlaljeobdddegaa

namespace Go.Proofs.Ytlaljeobdddegaa
open Go.RowKit Mp
theorem mkM_lt (l:List Nat):mkM l<18446744073709551616:=mkB_lt 64 _
theorem mkM_bit (l:List Nat) (j:Nat):(mkM l).testBit j=(decide (j<64) && l.any fun v=>v % 64 == j):=mkB_bit 64 _ j
theorem mkM_not (b i:Nat) (hb:b<18446744073709551616):(18446744073709551615 - b).testBit i=(decide (i<64) && !b.testBit i):=by
 have:=Nat.testBit_two_pow_sub_succ (n:=64) (x:=b) hb i
 have e:2 ^ 64 - (b+1)=18446744073709551615 - b:=by omega
 rw [e] at this
 exact this
theorem mkM_wit {a b:List Nat} (h:wit a b=true):mkM a &&& (18446744073709551615 - mkM b)=0:=by
 refine nat_eq (fun i=>?_)
 rw [Nat.testBit_and,mkM_not _ _ (mkM_lt b),mkM_bit,mkM_bit,Nat.zero_testBit]
 by_cases hi:i<64
 ·simp only [hi,decide_true,Bool.true_and]
  cases ha:a.any (fun v=>v % 64 == i) with
  | false=>rfl
  | true =>
   obtain ⟨v,hv,he⟩:=List.any_eq_true.1 ha
   have:b.any (fun v=>v % 64 == i)=true:=List.any_eq_true.2 ⟨v,wit_sub h v hv,he⟩
   rw [this];rfl
 ·simp [hi]
theorem wit_next {a b:List Nat} {k x:Nat} (h:a[k]?=some x):wit (a.take (k+1)) b=(wit (a.take k) b && decide (x ∈ b)):=by
 unfold wit
 rw [all_next _ _ _ _ h]
 congr 1
 simp
theorem wit_false {a b:List Nat} {k x:Nat} (h:a[k]?=some x) (hn:x ∉ b):wit a b=false:=by
 cases e:wit a b with
 | false=>rfl
 | true=>exact absurd (wit_sub e x (List.mem_of_getElem? h)) hn
set_option maxRecDepth 100000 in
set_option maxHeartbeats 8000000 in
theorem within_any (w:World) (ab ao bb bo:Nat) (a b:Ct) (ha:CtAt w ab ao a) (hb:CtAt w bb bo b) (la:a.lv.length≤4) (lb:b.lv.length≤4) :
  Calls Try.prog 83 #[.pointer (some ⟨ab,ao,none⟩),.pointer (some ⟨bb,bo,none⟩)] w fun e w'=>e = .returned (.bool (wit a.lv b.lv))∧Bl w w':=by
 have a5:=ha.c5
 have b5:=hb.c5
 have HLA:Hid (∀ v:World,Bl w v→Calls Try.prog 75 #[.pointer (some ⟨ab,ao,none⟩)] v fun e w'=>e = .returned (.slice (some ⟨ab,ao,none⟩) a.lv.length a.lv.length)∧w'=v.drewN 1):=fun v hv=>list_any v ab ao a (ha.to ha.lt hv) la
 have HLB:Hid (∀ v:World,Bl w v→Calls Try.prog 75 #[.pointer (some ⟨bb,bo,none⟩)] v fun e w'=>e = .returned (.slice (some ⟨bb,bo,none⟩) b.lv.length b.lv.length)∧w'=v.drewN 1):=fun v hv=>list_any v bb bo b (hb.to hb.lt hv) lb
 have HCO:Hid (∀ (v:World) (x:Nat),Bl w v→Calls Try.prog 84 #[.slice (some ⟨bb,bo,none⟩) b.lv.length b.lv.length,.int .i64 (x:Int)] v fun e w'=>e = .returned (.bool (decide (x ∈ b.lv)))∧w'=v):=fun v x hv=>contains_any v _ _ b.lv x (by omega) ((hb.to hb.lt hv).row lb)
 have HAC:Hid (∀ (v:World) (k x:Nat),Bl w v→a.lv[k]?=some x→v.cell? ⟨ab,ao+k,none⟩=some (.int .i64 (x:Nat))):=fun v k x hv hx=>(ha.to ha.lt hv).leaf la hx
 obtain ⟨r,HR⟩:=exh (wit a.lv b.lv)
 rw [←HR.out]
 have HM:Hid (r=true→mkM a.lv &&& (18446744073709551615 - mkM b.lv)=0):=fun h=>mkM_wit (by rw [←HR.out];exact h)
 have hAN:=u64_andNot_nat (mkM a.lv) (mkM b.lv) (mkM_lt _) (mkM_lt _)
 generalize mkM a.lv &&& (18446744073709551615 - mkM b.lv)=m at *
 generalize mkM a.lv=am at *
 generalize mkM b.lv=bm at *
 have HIn:Hid (∀ k,wit (a.lv.take (k+1)) b.lv=wit (a.lv.take (k+1)) b.lv):=fun k=>rfl
 clear HIn
 obtain ⟨al,EA⟩:=exh a.lv
 obtain ⟨bl,EB⟩:=exh b.lv
 rw [←EA.out] at HLA HAC la HR
 rw [←EB.out] at HLB HCO HR
 obtain ⟨n,En⟩:=exh al.length
 rw [←En.out] at HLA la
 clear ha hb EA EB lb
 go_enter Try.func83,Try.ntmps83
 by_cases hm:m=0
 rotate_left
 ·have hmI:¬ (m:Int)=0:=by omega
  have HRF:Hid (r=false):=by
   cases r with
   | false=>exact rfl
   | true=>exact absurd (HM.out rfl) hm
  clear HM hm
  go_wp2_with fail
  refine wp_region_noPanic ?_
  refine wp_region_held_drew (S:=fun wz=>wz.cell? ⟨ab,ao+5,none⟩=some (.int .u64 (am:Int))∧wz.cell? ⟨bb,bo+5,none⟩=some (.int .u64 (bm:Int))) (by kernel_rfl) (by exact ⟨a5,b5⟩) (fun hHeld=>?_)
  refine tk 0 ?_
  refine tk 1 ?_
  refine tk 2 ?_
  refine tk 3 ?_
  refine tk 4 ?_
  refine tk 5 ?_
  refine tk 6 ?_
  refine tk 7 ?_
  refine tk 8 ?_
  refine tk 9 ?_
  refine wpAnyH_done (by kernel_rfl) ?_ _
  refine NoPanic.normal ?_
  go_wp2
  go_ret
  exact ⟨ret_bool HRF.out.symm,Below.drew (Below.refl _ _)⟩
 subst hm
 clear HM
 go_wp2_with fail
 refine wp_region_noPanic ?_
 refine wp_region_held_drew (S:=fun wz=>wz.cell? ⟨ab,ao+5,none⟩=some (.int .u64 (am:Int))∧wz.cell? ⟨bb,bo+5,none⟩=some (.int .u64 (bm:Int))) (by kernel_rfl) (by exact ⟨a5,b5⟩) (fun hHeld=>?_)
 refine tk 0 ?_
 refine tk 1 ?_
 refine tk 2 ?_
 refine tk 3 ?_
 refine tk 4 ?_
 refine tk 5 ?_
 refine tk 6 ?_
 refine tk 7 ?_
 refine tk 8 ?_
 refine tk 9 ?_
 refine wpAnyH_done (by kernel_rfl) ?_ _
 refine NoPanic.normal ?_
 go_wp2_with fail
 go_at_call 75
 refine (HLA.out w.drew (Below.drew (Below.refl _ _))).mono ?_
 rintro e v ⟨rfl,hv⟩
 have HB1:Hid (Bl w v):=by rw [hv];exact Below.drewN (Below.drew (Below.refl _ _)) 1
 clear hv a5 b5
 go_wp2_with fail
 go_loopw [6,20] (fun _ i' w'=>∃ k:Nat,k≤n∧i' = .int .i64 (k:Int)∧Hid (wit (al.take k) bl=true)∧Hid (Bl w w')) (fun _ i' _=>n - (intOf i').toNat)
 case atStart=>exact ⟨0,Nat.zero_le _,rfl,(by show wit (al.take 0) bl=true;rfl),HB1.out⟩
 case round =>
  obtain ⟨k,hk,rfl,HWT,HBW⟩:=hrel
  by_cases hlt:k<n
  ·have hltI:(k:Int)<(n:Int):=by omega
   obtain ⟨x,hx⟩:=getElem_lt (show k<al.length by rw [←En.out];exact hlt)
   have cx:=HAC.out wr k x HBW.out hx
   have e2:IntKind.i64.wrap ((k:Int)+1)=(k:Int)+1:=wrapI _ (by omega) (by omega)
   have HX:=hidden hx
   clear hx
   by_cases hin:x ∈ bl
   ·have HNX:Hid (wit (al.take (k+1)) bl=true):=by
     show _=_
     rw [wit_next HX.out,HWT.out,decide_eq_true hin];rfl
    have hdec:decide (x ∈ bl)=true:=decide_eq_true hin
    clear hin
    go_wp2_with fail
    go_at_call 75
    refine (HLB.out wr HBW.out).mono ?_
    rintro e v2 ⟨rfl,hv⟩
    have HB2:Hid (Bl w v2):=by rw [hv];exact Below.drewN HBW.out 1
    clear hv
    go_wp2_with fail
    go_at_call 84
    refine (HCO.out v2 x HB2.out).mono ?_
    rintro e v3 ⟨rfl,hv⟩
    rw [hv,hdec]
    clear hv v3
    go_wp2
    go_roundw
    case measure=>simp [intOf];omega
    case rel=>exact ⟨k+1,by omega,by simp,HNX.out,HB2.out⟩
   ·have HRF:Hid (r=false):=by
     show _=_
     rw [HR.out];exact wit_false HX.out hin
    have hdec:decide (x ∈ bl)=false:=decide_eq_false hin
    clear hin
    go_wp2_with fail
    go_at_call 75
    refine (HLB.out wr HBW.out).mono ?_
    rintro e v2 ⟨rfl,hv⟩
    have HB2:Hid (Bl w v2):=by rw [hv];exact Below.drewN HBW.out 1
    clear hv
    go_wp2_with fail
    go_at_call 84
    refine (HCO.out v2 x HB2.out).mono ?_
    rintro e v3 ⟨rfl,hv⟩
    rw [hv,hdec]
    clear hv v3
    go_wp2
    go_ret
    exact ⟨ret_bool HRF.out.symm,HB2.out⟩
  ·have hge:¬ (k:Int)<(n:Int):=by omega
   have HRT:Hid (r=true):=by
    have:=HWT.out
    rw [List.take_of_length_le (by have:=En.out;omega)] at this
    show _=_
    rw [HR.out];exact this
   go_wp2
   go_ret
   exact ⟨ret_bool HRT.out.symm,HBW.out⟩
end Go.Proofs.Ytlaljeobdddegaa

namespace Go.Proofs.Ytlaljeobdddegaa
open Go.RowKit Mp
def stO {α:Type} (Cs:List (List α)) (v:Nat):Nat:=(Cs.take v).flatten.length
theorem stO_zero {α:Type} (Cs:List (List α)):stO Cs 0=0:=by unfold stO;simp
theorem getD_lt {α:Type} {Cs:List (List α)} {v:Nat} (h:v<Cs.length):Cs[v]?=some (Cs.getD v []):=by
 rw [List.getD_eq_getElem?_getD,List.getElem?_eq_getElem h];rfl
theorem stO_next {α:Type} {Cs:List (List α)} {v:Nat} (h:v<Cs.length):stO Cs (v+1)=stO Cs v+(Cs.getD v []).length:=by
 unfold stO
 rw [take_next _ _ _ (getD_lt h),List.flatten_append,List.length_append];simp
theorem stO_all {α:Type} (Cs:List (List α)):stO Cs Cs.length=Cs.flatten.length:=by unfold stO;rw [List.take_length]
theorem stO_le {α:Type} (Cs:List (List α)) (v:Nat):stO Cs v≤Cs.flatten.length:=by
 unfold stO
 have e:Cs.flatten=(Cs.take v).flatten++(Cs.drop v).flatten:=by rw [←List.flatten_append,List.take_append_drop]
 rw [e,List.length_append];omega
theorem flat_at {α:Type} {Cs:List (List α)} {v i:Nat} {c:α} (h:v<Cs.length) (hc:(Cs.getD v [])[i]?=some c):Cs.flatten[stO Cs v+i]?=some c:=by
 have e:Cs=Cs.take v++(Cs.getD v [] :: Cs.drop (v+1)):=by
  have h1:=List.drop_eq_getElem_cons h
  have h2:Cs.getD v []=Cs[v]:=by rw [List.getD_eq_getElem?_getD,List.getElem?_eq_getElem h];rfl
  rw [h2,←h1,List.take_append_drop]
 have hl:=(List.getElem?_eq_some_iff.1 hc).1
 have e2:Cs.flatten=(Cs.take v).flatten++((Cs.getD v [])++(Cs.drop (v+1)).flatten):=by
  conv=>lhs;rw [e]
  rw [List.flatten_append,List.flatten_cons]
 rw [e2]
 unfold stO
 rw [List.getElem?_append_right (by omega),List.getElem?_append_left (by omega)]
 have:(Cs.take v).flatten.length+i - (Cs.take v).flatten.length=i:=by omega
 rw [this];exact hc
structure FnS where
 fb:Nat
 ab:Nat
 ca:Nat
 eb:Nat
 ce:Nat
structure FinR (w:World) (S:FnS) (Cs:List (List Ct)):Prop where
 c0:w.cell? ⟨S.fb,0,none⟩=some (.slice (some ⟨S.ab,0,none⟩) Cs.flatten.length S.ca)
 c1:w.cell? ⟨S.fb,1,none⟩=some (.slice (some ⟨S.eb,0,none⟩) Cs.length S.ce)
 lf:S.fb<w.heap.size
 le:S.eb<w.heap.size
 cap:Cs.flatten.length≤S.ca
 all:∀ k c,Cs.flatten[k]?=some c→CtAt w S.ab (k*8) c
 ends:∀ v,v<Cs.length→w.cell? ⟨S.eb,v,none⟩=some (.int .i64 (stO Cs (v+1):Nat))
 few:Cs.flatten.length≤1000000000000
 num:Cs.length≤1000000
 lv4:∀ cs,cs ∈ Cs→∀ c,c ∈ cs→c.lv.length≤4
theorem FinR.to {w w':World} {S:FnS} {Cs:List (List Ct)} (h:FinR w S Cs) (hb:Bl w w'):FinR w' S Cs :=
 ⟨(hb.cell (p:=⟨S.fb,0,none⟩) h.lf).trans h.c0,(hb.cell (p:=⟨S.fb,1,none⟩) h.lf).trans h.c1,Nat.lt_of_lt_of_le h.lf hb.size,Nat.lt_of_lt_of_le h.le hb.size,h.cap,fun k c hc=>(h.all k c hc).to (h.all k c hc).lt hb,fun v hv=>(hb.cell (p:=⟨S.eb,v,none⟩) h.le).trans (h.ends v hv),h.few,h.num,h.lv4⟩
theorem FinR.at {w:World} {S:FnS} {Cs:List (List Ct)} (h:FinR w S Cs) {v i:Nat} {c:Ct} (hv:v<Cs.length) (hc:(Cs.getD v [])[i]?=some c):CtAt w S.ab (stO Cs v*8+i*8) c∧c.lv.length≤4:=by
 have:=h.all _ _ (flat_at hv hc)
 rw [Nat.add_mul] at this
 exact ⟨this,h.lv4 _ (List.mem_of_getElem? (getD_lt hv)) c (List.mem_of_getElem? hc)⟩
theorem cut_u:Try.prog.underlying 83=some (.slice (Try.prog.elem 83)):=by kernel_rfl
theorem cut_s (wx:World):(sizeOf (Try.prog.elem 83)).run Try.prog wx = .ok 8 wx:=by kernel_rfl
theorem cut_sl (wx:World) (ab n ca s e:Nat) (h1:s<e) (h2:e≤ca):(Instr.sliceAt 83 (.slice (some ⟨ab,0,none⟩) n ca) (some (.int .i64 (s:Int))) (some (.int .i64 (e:Int))) (some (.int .i64 (e:Int)))).run Try.prog wx = .ok (.slice (some ⟨ab,s*8,none⟩) (e - s) (e - s)) wx:=by
 rw [run_sliceAt_slice wx _ _ _ _ _ cut_u,run_slice_lhm wx _ _ n ca cut_u .i64 .i64 .i64 s e e (by omega) (by omega) (Int.le_refl _) (by omega),cut_s]
 show Result.ok (sliced _ s e e 8) wx=_
 unfold sliced
 rw [if_neg (by omega)]
 have:(⟨ab,0,none⟩:Addr).add (s*8)=⟨ab,s*8,none⟩:=by unfold Addr.add;split <;> simp_all
 simp only [Option.map_some,this]
set_option maxRecDepth 100000 in
set_option maxHeartbeats 8000000 in
theorem atcut_any (w:World) (b o eb ce ab n ca m v s e:Nat) (c0:w.cell? ⟨b,o,none⟩=some (.slice (some ⟨ab,0,none⟩) n ca)) (c1:w.cell? ⟨b,o+1,none⟩=some (.slice (some ⟨eb,0,none⟩) m ce)) (hv:v<m) (hm:m≤1000000) (ce1:w.cell? ⟨eb,v,none⟩=some (.int .i64 (e:Nat))) (cs0:v=0→s=0) (cs1:0<v→w.cell? ⟨eb,v - 1,none⟩=some (.int .i64 (s:Nat))) (hse:s<e) (hec:e≤ca) (hbig:e≤1000000000000) :
  Calls Try.prog 58 #[.pointer (some ⟨b,o,none⟩),.int .i64 (v:Nat)] w fun x w'=>x = .returned (.slice (some ⟨ab,s*8,none⟩) (e - s) (e - s))∧Bl w w':=by
 have RS:∀ wx:World,(Instr.sliceAt 83 (.slice (some ⟨ab,0,none⟩) n ca) (some (.int .i64 (s:Int))) (some (.int .i64 (e:Int))) (some (.int .i64 (e:Int)))).run Try.prog wx = .ok (.slice (some ⟨ab,s*8,none⟩) (e - s) (e - s)) wx:=fun wx=>cut_sl wx ab n ca s e hse hec
 have hvI:(v:Int)<(m:Int):=by omega
 by_cases h0:v=0
 ·have hs0:=cs0 h0
  subst h0
  subst hs0
  have hz:¬ (0:Int)<0:=by omega
  clear cs0 cs1
  go_enter Try.func58,Try.ntmps58
  go_wp2_with fail
  refine wp_region_noPanic ?_
  refine wp_region_held_drew (S:=fun wz=>wz.cell? ⟨b,o+1,none⟩=some (.slice (some ⟨eb,0,none⟩) m ce)∧wz.cell? ⟨eb,0,none⟩=some (.int .i64 (e:Int))) (by kernel_rfl) (by exact ⟨c1,ce1⟩) (fun hHeld=>?_)
  refine tk 0 ?_
  refine tk 1 ?_
  refine tk 2 ?_
  refine tk 3 ?_
  refine tk 4 ?_
  refine tk 5 ?_
  refine tk 6 ?_
  refine tk 7 ?_
  refine tk 8 ?_
  refine wpAnyH_done (by kernel_rfl) ?_ _
  refine NoPanic.normal ?_
  go_wp2
  go_ret
  exact ⟨by show Ending.returned (Value.slice _ e e)=_;rw [Nat.zero_mul,Nat.sub_zero],Below.drew (Below.refl _ _)⟩
 ·have c3:=cs1 (by omega)
  have hz:(0:Int)<(v:Int):=by omega
  have e2:IntKind.i64.wrap ((v:Int) - 1)=((v - 1:Nat):Int):=by rw [wrapI _ (by omega) (by omega)];omega
  have hz2:((v - 1:Nat):Int)<(m:Int):=by omega
  obtain ⟨v1,Ev1⟩:=exh (v - 1)
  rw [←Ev1.out] at e2 c3 hz2
  generalize e - s=ln at *
  clear cs0 cs1 h0
  go_enter Try.func58,Try.ntmps58
  go_wp2_with fail
  refine wp_region_noPanic ?_
  refine wp_region_held_drew (S:=fun wz=>wz.cell? ⟨b,o+1,none⟩=some (.slice (some ⟨eb,0,none⟩) m ce)∧wz.cell? ⟨eb,v,none⟩=some (.int .i64 (e:Int))) (by kernel_rfl) (by exact ⟨c1,ce1⟩) (fun hHeld=>?_)
  refine tk 0 ?_
  refine tk 1 ?_
  refine tk 2 ?_
  refine tk 3 ?_
  refine tk 4 ?_
  refine tk 5 ?_
  refine tk 6 ?_
  refine tk 7 ?_
  refine tk 8 ?_
  refine wpAnyH_done (by kernel_rfl) ?_ _
  refine NoPanic.normal ?_
  go_wp2
  go_ret
  exact ⟨rfl,Below.drew (Below.refl _ _)⟩
theorem int_u:Try.prog.underlying 24=some (.slice (Try.prog.elem 24)):=by kernel_rfl
theorem int_s (wx:World):(sizeOf (Try.prog.elem 24)).run Try.prog wx = .ok 1 wx:=by kernel_rfl
set_option maxRecDepth 100000 in
set_option maxHeartbeats 8000000 in
theorem finAt_any (w:World) (S:FnS) (Cs:List (List Ct)) (h:FinR w S Cs) (v:Nat) (hv:v<Cs.length) (hne:Cs.getD v []≠[]) :
  Calls Try.prog 58 #[.pointer (some ⟨S.fb,0,none⟩),.int .i64 (v:Nat)] w fun e w'=>e = .returned (.slice (some ⟨S.ab,stO Cs v*8,none⟩) (Cs.getD v []).length (Cs.getD v []).length)∧Bl w w':=by
 have hp:=List.length_pos_iff.2 hne
 have hn:=stO_next hv
 have:=atcut_any w S.fb 0 S.eb S.ce S.ab Cs.flatten.length S.ca Cs.length v (stO Cs v) (stO Cs (v+1)) h.c0 h.c1 hv h.num (h.ends v hv) (fun e=>by rw [e];exact stO_zero Cs) (fun hp=>by have:=h.ends (v - 1) (by omega);rwa [show v - 1+1=v by omega] at this) (by omega) (Nat.le_trans (stO_le Cs _) h.cap) (Nat.le_trans (stO_le Cs _) h.few)
 have e:stO Cs (v+1) - stO Cs v=(Cs.getD v []).length:=by omega
 rw [e] at this
 exact this
set_option maxRecDepth 100000 in
set_option maxHeartbeats 8000000 in
theorem told_any (w:World) (S:FnS) (Cs:List (List Ct)) (h:FinR w S Cs) (v:Nat) (hv:v<Cs.length) (hne:Cs.getD v []≠[]) (bb bo:Nat) (c:Ct) (hc:CtAt w bb bo c) (lc:c.lv.length≤4) :
  Calls Try.prog 81 #[.pointer (some ⟨S.fb,0,none⟩),.int .i64 (v:Nat),.pointer (some ⟨bb,bo,none⟩)] w fun e w'=>e = .returned (.bool (toldB (KOf Cs) v c.lv))∧Bl w w':=by
 have AT:=hidden (finAt_any w S Cs h v hv hne)
 have HC:Hid (∀ (u:World) (i:Nat) (x:Ct),Bl w u→(Cs.getD v [])[i]?=some x→Calls Try.prog 83 #[.pointer (some ⟨S.ab,stO Cs v*8+i*8,none⟩),.pointer (some ⟨bb,bo,none⟩)] u fun e w'=>e = .returned (.bool (wit x.lv c.lv))∧Bl u w'):=fun u i x hu hx=>by
  obtain ⟨h1,h2⟩:=(h.to hu).at hv hx
  exact within_any u _ _ _ _ x c h1 (hc.to hc.lt hu) h2 lc
 have e0:toldB (KOf Cs) v c.lv=(Cs.getD v []).any (fun k=>wit k.lv c.lv):=by unfold toldB KOf;rw [List.any_map];rfl
 rw [e0]
 obtain ⟨r,HR⟩:=exh ((Cs.getD v []).any (fun k=>wit k.lv c.lv))
 rw [←HR.out]
 have hl:(Cs.getD v []).length≤1000000000000:=by
  have h1:=stO_next hv
  have h2:=stO_le Cs (v+1)
  have h3:=h.few
  omega
 generalize Cs.getD v []=cs at *
 obtain ⟨n,En⟩:=exh cs.length
 rw [←En.out] at AT hl
 generalize stO Cs v=so at *
 generalize S.ab=ab at *
 generalize S.fb=fb at *
 clear h hc e0 hne
 go_enter Try.func81,Try.ntmps81
 go_wp2_with fail
 go_at_call 58
 refine AT.out.mono ?_
 rintro e v1 ⟨rfl,hv1⟩
 have HB1:=hidden hv1
 clear hv1 AT
 go_wp2_with fail
 go_loopw [8,16] (fun _ i' w'=>∃ k:Nat,k≤n∧i' = .int .i64 (k:Int)∧Hid ((cs.take k).any (fun k=>wit k.lv c.lv)=false)∧Hid (Bl w w')) (fun _ i' _=>n - (intOf i').toNat)
 case atStart=>exact ⟨0,Nat.zero_le _,rfl,(by show (cs.take 0).any _=false;rfl),HB1.out⟩
 case round =>
  obtain ⟨k,hk,rfl,HAN,HBW⟩:=hrel
  by_cases hlt:k<n
  ·have hltI:(k:Int)<(n:Int):=by omega
   obtain ⟨x,hx⟩:=getElem_lt (show k<cs.length by rw [←En.out];exact hlt)
   have HW:=hidden (HC.out wr k x HBW.out hx)
   have e2:IntKind.i64.wrap ((k:Int)+1)=(k:Int)+1:=wrapI _ (by omega) (by omega)
   have HNX:Hid ((cs.take (k+1)).any (fun k=>wit k.lv c.lv)=wit x.lv c.lv):=by
    show _=_
    rw [take_next _ _ _ hx,List.any_append,HAN.out];simp
   have HRT:Hid (wit x.lv c.lv=true→r=true):=fun hw=>by
    rw [HR.out];exact List.any_eq_true.2 ⟨x,List.mem_of_getElem? hx,hw⟩
   clear hx HAN
   generalize wit x.lv c.lv=b at *
   go_wp2_with fail
   go_at_call 83
   refine HW.out.mono ?_
   rintro e v2 ⟨rfl,hv2⟩
   have HB2:Hid (Bl w v2):=HBW.out.trans (hv2.mono HBW.out.size)
   clear hv2 HW
   cases b with
   | true =>
    have HRT2:Hid (r=true):=HRT.out rfl
    clear HRT
    go_wp2
    go_ret
    exact ⟨ret_bool HRT2.out.symm,HB2.out⟩
   | false =>
    clear HRT
    go_wp2
    go_roundw
    case measure=>simp [intOf];omega
    case rel=>exact ⟨k+1,by omega,by simp,HNX.out,HB2.out⟩
  ·have hge:¬ (k:Int)<(n:Int):=by omega
   have HRF:Hid (r=false):=by
    have:=HAN.out
    rw [List.take_of_length_le (by have:=En.out;omega)] at this
    show _=_
    rw [HR.out];exact this
   go_wp2
   go_ret
   exact ⟨ret_bool HRF.out.symm,HBW.out⟩
end Go.Proofs.Ytlaljeobdddegaa
