import Derived.Test.YtlaljeobdddegaaJ49
namespace Go.Proofs.Ytlaljeobdddegaa
open Go.RowKit Mp
theorem joinL_len:∀ (a b:List Nat),(joinL a b).length≤a.length+b.length:=fun a b=>by
 fun_induction joinL a b with
 | case1 b=>simp
 | case2 a r=>simp
 | case3 a r b s h ih=>simp at ih ⊢;omega
 | case4 a r b s h1 h2 ih=>simp at ih ⊢;omega
 | case5 a r b s h1 h2 ih=>simp at ih ⊢;omega
theorem drop_at {l:List Nat} {i x:Nat} (h:l[i]?=some x):l.drop i=x :: l.drop (i+1):=by
 have hi:=(List.getElem?_eq_some_iff.1 h).1
 rw [List.drop_eq_getElem_cons hi,(List.getElem?_eq_some_iff.1 h).2]
theorem drop_end {l:List Nat} {i:Nat} (h:l.length≤i):l.drop i=[]:=List.drop_eq_nil_of_le h
theorem joinL_nil (a:List Nat):joinL a []=a:=by
 cases a <;> simp [joinL]
theorem joinL_nil' (b:List Nat):joinL [] b=b:=by simp [joinL]
theorem join_left {a b:List Nat} {i j x:Nat} (hx:a[i]?=some x) (h:∀ y,b[j]?=some y→x<y):joinL (a.drop i) (b.drop j)=x :: joinL (a.drop (i+1)) (b.drop j):=by
 rw [drop_at hx]
 by_cases hj:j<b.length
 ·obtain ⟨y,hy⟩:=getElem_lt hj
  rw [drop_at hy,joinL,if_pos (h y hy)]
 ·rw [drop_end (l:=b) (i:=j) (by omega),joinL_nil,joinL_nil]
theorem join_right {a b:List Nat} {i j y:Nat} (hy:b[j]?=some y) (h:∀ x,a[i]?=some x→y<x):joinL (a.drop i) (b.drop j)=y :: joinL (a.drop i) (b.drop (j+1)):=by
 rw [drop_at hy]
 by_cases hi:i<a.length
 ·obtain ⟨x,hx⟩:=getElem_lt hi
  have:=h x hx
  rw [drop_at hx,joinL,if_neg (by omega),if_pos this]
 ·rw [drop_end (l:=a) (by omega),joinL_nil',joinL_nil']
theorem join_both {a b:List Nat} {i j x:Nat} (hx:a[i]?=some x) (hy:b[j]?=some x):joinL (a.drop i) (b.drop j)=x :: joinL (a.drop (i+1)) (b.drop (j+1)):=by
 rw [drop_at hx,drop_at hy,joinL,if_neg (by omega),if_neg (by omega)]
set_option maxRecDepth 100000 in
set_option maxHeartbeats 8000000 in
theorem joinedD_any (w:World) (a b:Option Addr) (ca cb:Nat) (la lb:List Nat) (ha:NumR w a la) (hb:NumR w b lb) (l1:la.length≤4) (l2:lb.length≤4) :
  Calls Try.prog 26 #[.slice a la.length ca,.slice b lb.length cb] w fun e w'=>∃ v,e = .returned (.tuple #[v,.bool (decide ((joinL la lb).length≤4))])∧Hid (w'.ownsRow w.heap.size 3 1 v (joinL la lb).length ((joinL la lb).map nV))∧Hid (Bl w w'):=by
 have HA:Hid (∀ v,Bl w v→NumR v a la):=fun v hv=>ha.to hv
 have HB:Hid (∀ v,Bl w v→NumR v b lb):=fun v hv=>hb.to hv
 obtain ⟨n,En⟩:=exh la.length
 obtain ⟨m,Em⟩:=exh lb.length
 rw [←En.out] at l1
 rw [←Em.out] at l2
 rw [←En.out,←Em.out]
 obtain ⟨J,EJ⟩:=exh (joinL la lb)
 rw [←EJ.out]
 have hJl:J.length≤8:=by have:=joinL_len la lb;rw [←EJ.out,←En.out,←Em.out] at this;omega
 clear ha hb
 go_enter Try.func26,Try.ntmps26
 go_wp2_with fail
 go_loopw [6,7,8] (fun v' i' j' w'=>∃ (i j:Nat) (out:List Nat),i≤n∧j≤m∧out.length≤i+j∧i' = .int .i64 (i:Int)∧j' = .int .i64 (j:Int)∧Hid (J=out++joinL (la.drop i) (lb.drop j))∧Hid (w'.ownsRow w.heap.size 3 1 v' out.length (out.map nV))∧Hid (Bl w w')) (fun _ i' j' _=>n+m - (intOf i').toNat - (intOf j').toNat)
 case atStart=>exact ⟨0,0,[],Nat.zero_le _,Nat.zero_le _,Nat.le_refl _,rfl,rfl,EJ.out,own_nil _ _ _ _,Below.refl _ _⟩
 case round =>
  obtain ⟨i,j,out,hi,hj,hol,rfl,rfl,HJ,HO,HBW⟩:=hrel
  obtain ⟨nout,Enout⟩:=exh out.length
  rw [←Enout.out] at HO hol
  by_cases hli:i<n
  ·have hliI:(i:Int)<(n:Int):=by omega
   have hneI:((i:Int) == (n:Int))=false:=by rw [beq_eq_false_iff_ne];omega
   obtain ⟨x,hx⟩:=getElem_lt (show i<la.length by rw [←En.out];exact hli)
   obtain ⟨ba,oa,ea,cx⟩:=HA.out wr HBW.out i x hx
   have HCX:Hid (∀ v,Bl w v→v.cell? ⟨ba,oa+i,none⟩=some (.int .i64 (x:Int))):=fun v hv=>by
    obtain ⟨b',o',e',c'⟩:=HA.out v hv i x hx
    rw [ea] at e'
    simp only [Option.some.injEq,Addr.mk.injEq,and_true] at e'
    obtain ⟨rfl,rfl⟩:=e'
    exact c'
   have hx1:=hidden hx
   subst ea
   clear hx
   by_cases hlj:j<m
   rotate_left
   ·obtain rfl:j=m:=by omega
    have hy1:True:=trivial
    have HJ2:Hid (J=(out++[x])++joinL (la.drop (i+1)) (lb.drop (j))):=by
     show _=_
     rw [HJ.out,join_left hx1.out (fun y hy=>by have:=(List.getElem?_eq_some_iff.1 hy).1;have:=Em.out;omega),List.append_assoc];rfl
    have e2:IntKind.i64.wrap ((i:Int)+1)=(i:Int)+1:=wrapI _ (by omega) (by omega)
    have e3:IntKind.i64.wrap ((j:Int)+1)=(j:Int)+1:=wrapI _ (by omega) (by omega)
    clear HJ hx1 hy1
    go_wp2_with fail
    refine wp_region_noPanic ?_
    refine wp_region_held_drew (S:=fun wz=>wz.cell? ⟨ba,oa+i,none⟩=some (.int .i64 (x:Int))) (by kernel_rfl) (by exact cx) (fun hHeld=>?_)
    refine tk 0 ?_
    refine tk 1 ?_
    refine tk 2 ?_
    refine tk 3 ?_
    refine tk 4 ?_
    refine tu 5 ?_
    refine tu 6 ?_
    refine tu 7 ?_
    refine tu 8 ?_
    refine tu 9 ?_
    refine tu 10 ?_
    refine tu 11 ?_
    refine tu 12 ?_
    refine tu 13 ?_
    refine tu 14 ?_
    refine tu 15 ?_
    refine tu 16 ?_
    refine tu 17 ?_
    refine tu 18 ?_
    refine tu 19 ?_
    refine tk 20 ?_
    refine tk 21 ?_
    refine wpAnyH_done (by kernel_rfl) ?_ _
    refine NoPanic.normal ?_
    clear hHeld
    have HBwd:Hid (Bl wr wr.drew):=Below.drew (Below.refl _ _)
    generalize wr.drew=wd at *
    have HBd:Hid (Bl w wd):=Bl.tr HBW.out HBwd.out
    have HOd:=hidden (own_below HO.out HBwd.out)
    have hsz:w.heap.size≤wd.heap.size+1:=by have:=HBd.out.size;omega
    have HC:Hid ((wd.alloc (.cells #[.int .i64 (x:Int)] 3)).cell? ⟨wd.heap.size,0,none⟩=some (.int .i64 (x:Int))):=(Blk.new wd _ _).cell (i:=0) rfl
    have cl:=HCX.out wd HBd.out
    have tok:True:=trivial
    go_wp2_with (have _t:=tok;at_builtin;(refine app_int _ rfl (.tmp 52) (.tmp 57) rfl w.heap.size u6 nout _ rfl (HOd.out.alloc _) ⟨wd.heap.size,0,none⟩ (x:Int) rfl HC.out (by omega) (by simpa using hsz) ?_;intro g6 c6 w6 hown hgrow _;have HB6:=hidden (app_bl HBd.out (own_newB HOd.out) hgrow);have HO6:=hidden hown;clear tok hown hgrow))
    go_roundw
    case measure=>simp [intOf];omega
    case rel=>exact ⟨i+1,j,out++[x],by omega,by omega,by rw [List.length_append,List.length_singleton];have:=Enout.out;omega,by simp,by simp,HJ2.out,(by rw [List.length_append,List.length_singleton,List.map_append,←Enout.out];exact HO6.out),HB6.out⟩
   have hljI:(j:Int)<(m:Int):=by omega
   have hnjI:((j:Int) == (m:Int))=false:=by rw [beq_eq_false_iff_ne];omega
   obtain ⟨y,hy⟩:=getElem_lt (show j<lb.length by rw [←Em.out];exact hlj)
   obtain ⟨bb,ob,eb,cy⟩:=HB.out wr HBW.out j y hy
   have HCY:Hid (∀ v,Bl w v→v.cell? ⟨bb,ob+j,none⟩=some (.int .i64 (y:Int))):=fun v hv=>by
    obtain ⟨b',o',e',c'⟩:=HB.out v hv j y hy
    rw [eb] at e'
    simp only [Option.some.injEq,Addr.mk.injEq,and_true] at e'
    obtain ⟨rfl,rfl⟩:=e'
    exact c'
   have hy1:=hidden hy
   subst eb
   clear hy
   by_cases hlt:x<y
   ·have hltI:(x:Int)<(y:Int):=by omega
    have HJ2:Hid (J=(out++[x])++joinL (la.drop (i+1)) (lb.drop (j))):=by
     show _=_
     rw [HJ.out,join_left hx1.out (fun z hz=>by have e:=hy1.out;rw [hz] at e;have:=Option.some.inj e;omega),List.append_assoc];rfl
    have e2:IntKind.i64.wrap ((i:Int)+1)=(i:Int)+1:=wrapI _ (by omega) (by omega)
    have e3:IntKind.i64.wrap ((j:Int)+1)=(j:Int)+1:=wrapI _ (by omega) (by omega)
    clear HJ hx1 hy1
    go_wp2_with fail
    refine wp_region_noPanic ?_
    refine wp_region_held_drew (S:=fun wz=>wz.cell? ⟨ba,oa+i,none⟩=some (.int .i64 (x:Int))∧wz.cell? ⟨bb,ob+j,none⟩=some (.int .i64 (y:Int))) (by kernel_rfl) (by exact ⟨cx,cy⟩) (fun hHeld=>?_)
    refine tk 0 ?_
    refine tk 1 ?_
    refine tk 2 ?_
    refine tk 3 ?_
    refine tk 4 ?_
    refine tk 5 ?_
    refine tk 6 ?_
    refine tk 7 ?_
    refine tk 8 ?_
    refine tk 9 ?_
    refine tk 10 ?_
    refine tk 11 ?_
    refine tk 12 ?_
    refine tk 13 ?_
    refine tk 14 ?_
    refine tk 15 ?_
    refine tk 16 ?_
    refine tk 17 ?_
    refine tk 18 ?_
    refine tk 19 ?_
    refine tk 20 ?_
    refine tk 21 ?_
    refine wpAnyH_done (by kernel_rfl) ?_ _
    refine NoPanic.normal ?_
    clear hHeld
    have HBwd:Hid (Bl wr wr.drew):=Below.drew (Below.refl _ _)
    generalize wr.drew=wd at *
    have HBd:Hid (Bl w wd):=Bl.tr HBW.out HBwd.out
    have HOd:=hidden (own_below HO.out HBwd.out)
    have hsz:w.heap.size≤wd.heap.size+1:=by have:=HBd.out.size;omega
    have HC:Hid ((wd.alloc (.cells #[.int .i64 (x:Int)] 3)).cell? ⟨wd.heap.size,0,none⟩=some (.int .i64 (x:Int))):=(Blk.new wd _ _).cell (i:=0) rfl
    have cl:=HCX.out wd HBd.out
    have tok:True:=trivial
    go_wp2_with (have _t:=tok;at_builtin;(refine app_int _ rfl (.tmp 52) (.tmp 57) rfl w.heap.size u6 nout _ rfl (HOd.out.alloc _) ⟨wd.heap.size,0,none⟩ (x:Int) rfl HC.out (by omega) (by simpa using hsz) ?_;intro g6 c6 w6 hown hgrow _;have HB6:=hidden (app_bl HBd.out (own_newB HOd.out) hgrow);have HO6:=hidden hown;clear tok hown hgrow))
    go_roundw
    case measure=>simp [intOf];omega
    case rel=>exact ⟨i+1,j,out++[x],by omega,by omega,by rw [List.length_append,List.length_singleton];have:=Enout.out;omega,by simp,by simp,HJ2.out,(by rw [List.length_append,List.length_singleton,List.map_append,←Enout.out];exact HO6.out),HB6.out⟩
   ·have hltI:¬ (x:Int)<(y:Int):=by omega
    by_cases hgt:y<x
    ·have hgtI:(y:Int)<(x:Int):=by omega
     have HJ2:Hid (J=(out++[y])++joinL (la.drop (i)) (lb.drop (j+1))):=by
      show _=_
      rw [HJ.out,join_right hy1.out (fun z hz=>by have e:=hx1.out;rw [hz] at e;have:=Option.some.inj e;omega),List.append_assoc];rfl
     have e2:IntKind.i64.wrap ((i:Int)+1)=(i:Int)+1:=wrapI _ (by omega) (by omega)
     have e3:IntKind.i64.wrap ((j:Int)+1)=(j:Int)+1:=wrapI _ (by omega) (by omega)
     clear HJ hx1 hy1
     go_wp2_with fail
     refine wp_region_noPanic ?_
     refine wp_region_held_drew (S:=fun wz=>wz.cell? ⟨ba,oa+i,none⟩=some (.int .i64 (x:Int))∧wz.cell? ⟨bb,ob+j,none⟩=some (.int .i64 (y:Int))) (by kernel_rfl) (by exact ⟨cx,cy⟩) (fun hHeld=>?_)
     refine tk 0 ?_
     refine tk 1 ?_
     refine tk 2 ?_
     refine tk 3 ?_
     refine tk 4 ?_
     refine tk 5 ?_
     refine tk 6 ?_
     refine tk 7 ?_
     refine tk 8 ?_
     refine tk 9 ?_
     refine tk 10 ?_
     refine tk 11 ?_
     refine tk 12 ?_
     refine tk 13 ?_
     refine tk 14 ?_
     refine tk 15 ?_
     refine tk 16 ?_
     refine tk 17 ?_
     refine tk 18 ?_
     refine tk 19 ?_
     refine tk 20 ?_
     refine tk 21 ?_
     refine wpAnyH_done (by kernel_rfl) ?_ _
     refine NoPanic.normal ?_
     clear hHeld
     have HBwd:Hid (Bl wr wr.drew):=Below.drew (Below.refl _ _)
     generalize wr.drew=wd at *
     have cx2:=HCX.out wd (Bl.tr HBW.out HBwd.out)
     have cy2:=HCY.out wd (Bl.tr HBW.out HBwd.out)
     clear cx cy
     go_wp2_with fail
     refine wp_region_noPanic ?_
     refine wp_region_held_drew (S:=fun wz=>wz.cell? ⟨ba,oa+i,none⟩=some (.int .i64 (x:Int))∧wz.cell? ⟨bb,ob+j,none⟩=some (.int .i64 (y:Int))) (by kernel_rfl) (by exact ⟨cx2,cy2⟩) (fun hHeld=>?_)
     refine tk 0 ?_
     refine tk 1 ?_
     refine tk 2 ?_
     refine tk 3 ?_
     refine tk 4 ?_
     refine tk 5 ?_
     refine tk 6 ?_
     refine tk 7 ?_
     refine tk 8 ?_
     refine tk 9 ?_
     refine tk 10 ?_
     refine tk 11 ?_
     refine tk 12 ?_
     refine tk 13 ?_
     refine tk 14 ?_
     refine tk 15 ?_
     refine wpAnyH_done (by kernel_rfl) ?_ _
     refine NoPanic.normal ?_
     clear hHeld
     have HBwe:Hid (Bl wr wd.drew):=Below.drew HBwd.out
     generalize wd.drew=we at *
     have HBd:Hid (Bl w we):=Bl.tr HBW.out HBwe.out
     have HOd:=hidden (own_below HO.out HBwe.out)
     have hsz:w.heap.size≤we.heap.size+1:=by have:=HBd.out.size;omega
     have HC:Hid ((we.alloc (.cells #[.int .i64 (y:Int)] 3)).cell? ⟨we.heap.size,0,none⟩=some (.int .i64 (y:Int))):=(Blk.new we _ _).cell (i:=0) rfl
     have cl:=HCY.out we HBd.out
     have tok:True:=trivial
     go_wp2_with (have _t:=tok;at_builtin;(refine app_int _ rfl (.tmp 77) (.tmp 82) rfl w.heap.size u6 nout _ rfl (HOd.out.alloc _) ⟨we.heap.size,0,none⟩ (y:Int) rfl HC.out (by omega) (by simpa using hsz) ?_;intro g6 c6 w6 hown hgrow _;have HB6:=hidden (app_bl HBd.out (own_newB HOd.out) hgrow);have HO6:=hidden hown;clear tok hown hgrow))
     go_roundw
     case measure=>simp [intOf];omega
     case rel=>exact ⟨i,j+1,out++[y],by omega,by omega,by rw [List.length_append,List.length_singleton];have:=Enout.out;omega,by simp,by simp,HJ2.out,(by rw [List.length_append,List.length_singleton,List.map_append,←Enout.out];exact HO6.out),HB6.out⟩
    ·have hgtI:¬ (y:Int)<(x:Int):=by omega
     have hxy:y=x:=by omega
     have HJ2:Hid (J=(out++[x])++joinL (la.drop (i+1)) (lb.drop (j+1))):=by
      show _=_
      rw [HJ.out,join_both hx1.out (hxy ▸ hy1.out),List.append_assoc];rfl
     have e2:IntKind.i64.wrap ((i:Int)+1)=(i:Int)+1:=wrapI _ (by omega) (by omega)
     have e3:IntKind.i64.wrap ((j:Int)+1)=(j:Int)+1:=wrapI _ (by omega) (by omega)
     clear HJ hx1 hy1
     go_wp2_with fail
     refine wp_region_noPanic ?_
     refine wp_region_held_drew (S:=fun wz=>wz.cell? ⟨ba,oa+i,none⟩=some (.int .i64 (x:Int))∧wz.cell? ⟨bb,ob+j,none⟩=some (.int .i64 (y:Int))) (by kernel_rfl) (by exact ⟨cx,cy⟩) (fun hHeld=>?_)
     refine tk 0 ?_
     refine tk 1 ?_
     refine tk 2 ?_
     refine tk 3 ?_
     refine tk 4 ?_
     refine tk 5 ?_
     refine tk 6 ?_
     refine tk 7 ?_
     refine tk 8 ?_
     refine tk 9 ?_
     refine tk 10 ?_
     refine tk 11 ?_
     refine tk 12 ?_
     refine tk 13 ?_
     refine tk 14 ?_
     refine tk 15 ?_
     refine tk 16 ?_
     refine tk 17 ?_
     refine tk 18 ?_
     refine tk 19 ?_
     refine tk 20 ?_
     refine tk 21 ?_
     refine wpAnyH_done (by kernel_rfl) ?_ _
     refine NoPanic.normal ?_
     clear hHeld
     have HBwd:Hid (Bl wr wr.drew):=Below.drew (Below.refl _ _)
     generalize wr.drew=wd at *
     have cx2:=HCX.out wd (Bl.tr HBW.out HBwd.out)
     have cy2:=HCY.out wd (Bl.tr HBW.out HBwd.out)
     clear cx cy
     go_wp2_with fail
     refine wp_region_noPanic ?_
     refine wp_region_held_drew (S:=fun wz=>wz.cell? ⟨ba,oa+i,none⟩=some (.int .i64 (x:Int))∧wz.cell? ⟨bb,ob+j,none⟩=some (.int .i64 (y:Int))) (by kernel_rfl) (by exact ⟨cx2,cy2⟩) (fun hHeld=>?_)
     refine tk 0 ?_
     refine tk 1 ?_
     refine tk 2 ?_
     refine tk 3 ?_
     refine tk 4 ?_
     refine tk 5 ?_
     refine tk 6 ?_
     refine tk 7 ?_
     refine tk 8 ?_
     refine tk 9 ?_
     refine tk 10 ?_
     refine tk 11 ?_
     refine tk 12 ?_
     refine tk 13 ?_
     refine tk 14 ?_
     refine tk 15 ?_
     refine wpAnyH_done (by kernel_rfl) ?_ _
     refine NoPanic.normal ?_
     clear hHeld
     have HBwe:Hid (Bl wr wd.drew):=Below.drew HBwd.out
     generalize wd.drew=we at *
     have HBd:Hid (Bl w we):=Bl.tr HBW.out HBwe.out
     have HOd:=hidden (own_below HO.out HBwe.out)
     have hsz:w.heap.size≤we.heap.size+1:=by have:=HBd.out.size;omega
     have HC:Hid ((we.alloc (.cells #[.int .i64 (x:Int)] 3)).cell? ⟨we.heap.size,0,none⟩=some (.int .i64 (x:Int))):=(Blk.new we _ _).cell (i:=0) rfl
     have cl:=HCX.out we HBd.out
     have tok:True:=trivial
     go_wp2_with (have _t:=tok;at_builtin;(refine app_int _ rfl (.tmp 19) (.tmp 24) rfl w.heap.size u6 nout _ rfl (HOd.out.alloc _) ⟨we.heap.size,0,none⟩ (x:Int) rfl HC.out (by omega) (by simpa using hsz) ?_;intro g6 c6 w6 hown hgrow _;have HB6:=hidden (app_bl HBd.out (own_newB HOd.out) hgrow);have HO6:=hidden hown;clear tok hown hgrow))
     go_roundw
     case measure=>simp [intOf];omega
     case rel=>exact ⟨i+1,j+1,out++[x],by omega,by omega,by rw [List.length_append,List.length_singleton];have:=Enout.out;omega,by simp,by simp,HJ2.out,(by rw [List.length_append,List.length_singleton,List.map_append,←Enout.out];exact HO6.out),HB6.out⟩
  ·obtain rfl:i=n:=by omega
   by_cases hlj:j<m
   ·have hljI:(j:Int)<(m:Int):=by omega
    have hnjI:((j:Int) == (m:Int))=false:=by rw [beq_eq_false_iff_ne];omega
    obtain ⟨y,hy⟩:=getElem_lt (show j<lb.length by rw [←Em.out];exact hlj)
    obtain ⟨bb,ob,eb,cy⟩:=HB.out wr HBW.out j y hy
    have HCY:Hid (∀ v,Bl w v→v.cell? ⟨bb,ob+j,none⟩=some (.int .i64 (y:Int))):=fun v hv=>by
     obtain ⟨b',o',e',c'⟩:=HB.out v hv j y hy
     rw [eb] at e'
     simp only [Option.some.injEq,Addr.mk.injEq,and_true] at e'
     obtain ⟨rfl,rfl⟩:=e'
     exact c'
    have hy1:=hidden hy
    have hx1:True:=trivial
    subst eb
    clear hy
    have HJ2:Hid (J=(out++[y])++joinL (la.drop (i)) (lb.drop (j+1))):=by
     show _=_
     rw [HJ.out,join_right hy1.out (fun z hz=>by have:=(List.getElem?_eq_some_iff.1 hz).1;have:=En.out;omega),List.append_assoc];rfl
    have e2:IntKind.i64.wrap ((i:Int)+1)=(i:Int)+1:=wrapI _ (by omega) (by omega)
    have e3:IntKind.i64.wrap ((j:Int)+1)=(j:Int)+1:=wrapI _ (by omega) (by omega)
    clear HJ hx1 hy1
    go_wp2_with fail
    refine wp_region_noPanic ?_
    refine wp_region_held_drew (S:=fun wz=>wz.cell? ⟨bb,ob+j,none⟩=some (.int .i64 (y:Int))) (by kernel_rfl) (by exact cy) (fun hHeld=>?_)
    refine tk 0 ?_
    refine tk 1 ?_
    refine tk 2 ?_
    refine tk 3 ?_
    refine tk 4 ?_
    refine tk 5 ?_
    refine tk 6 ?_
    refine tk 7 ?_
    refine tk 8 ?_
    refine tk 9 ?_
    refine tu 10 ?_
    refine tu 11 ?_
    refine tu 12 ?_
    refine tu 13 ?_
    refine tu 14 ?_
    refine tu 15 ?_
    refine tu 16 ?_
    refine tu 17 ?_
    refine tu 18 ?_
    refine tk 19 ?_
    refine tk 20 ?_
    refine tk 21 ?_
    refine wpAnyH_done (by kernel_rfl) ?_ _
    refine NoPanic.normal ?_
    clear hHeld
    have HBwd:Hid (Bl wr wr.drew):=Below.drew (Below.refl _ _)
    generalize wr.drew=wd at *
    have cy2:=HCY.out wd (Bl.tr HBW.out HBwd.out)
    clear cy
    go_wp2_with fail
    refine wp_region_noPanic ?_
    refine wp_region_held_drew (S:=fun wz=>wz.cell? ⟨bb,ob+j,none⟩=some (.int .i64 (y:Int))) (by kernel_rfl) (by exact cy2) (fun hHeld=>?_)
    refine tk 0 ?_
    refine tk 1 ?_
    refine tk 2 ?_
    refine tk 3 ?_
    refine tk 4 ?_
    refine tu 5 ?_
    refine tu 6 ?_
    refine tu 7 ?_
    refine tu 8 ?_
    refine tu 9 ?_
    refine tu 10 ?_
    refine tu 11 ?_
    refine tu 12 ?_
    refine tu 13 ?_
    refine tk 14 ?_
    refine tk 15 ?_
    refine wpAnyH_done (by kernel_rfl) ?_ _
    refine NoPanic.normal ?_
    clear hHeld
    have HBwe:Hid (Bl wr wd.drew):=Below.drew HBwd.out
    generalize wd.drew=we at *
    have HBd:Hid (Bl w we):=Bl.tr HBW.out HBwe.out
    have HOd:=hidden (own_below HO.out HBwe.out)
    have hsz:w.heap.size≤we.heap.size+1:=by have:=HBd.out.size;omega
    have HC:Hid ((we.alloc (.cells #[.int .i64 (y:Int)] 3)).cell? ⟨we.heap.size,0,none⟩=some (.int .i64 (y:Int))):=(Blk.new we _ _).cell (i:=0) rfl
    have cl:=HCY.out we HBd.out
    have tok:True:=trivial
    go_wp2_with (have _t:=tok;at_builtin;(refine app_int _ rfl (.tmp 77) (.tmp 82) rfl w.heap.size u6 nout _ rfl (HOd.out.alloc _) ⟨we.heap.size,0,none⟩ (y:Int) rfl HC.out (by omega) (by simpa using hsz) ?_;intro g6 c6 w6 hown hgrow _;have HB6:=hidden (app_bl HBd.out (own_newB HOd.out) hgrow);have HO6:=hidden hown;clear tok hown hgrow))
    go_roundw
    case measure=>simp [intOf];omega
    case rel=>exact ⟨i,j+1,out++[y],by omega,by omega,by rw [List.length_append,List.length_singleton];have:=Enout.out;omega,by simp,by simp,HJ2.out,(by rw [List.length_append,List.length_singleton,List.map_append,←Enout.out];exact HO6.out),HB6.out⟩
   ·obtain rfl:j=m:=by omega
    have HJE:Hid (J=out):=by
     show _=_
     rw [HJ.out,drop_end (by rw [←En.out];exact Nat.le_refl _),drop_end (by rw [←Em.out];exact Nat.le_refl _),joinL_nil,List.append_nil]
    have HOJ:Hid (wr.ownsRow w.heap.size 3 1 u6 J.length (J.map nV)):=by
     rw [HJE.out,←Enout.out];exact HO.out
    have HLE:Hid (decide (J.length≤4)=decide ((nout:Int)≤4)):=by
     show _=_
     rw [HJE.out,←Enout.out]
     exact decide_eq_decide.2 (by omega)
    obtain ⟨a6,c6,e6⟩:=own_sl HO.out
    subst e6
    clear HJ HO HJE
    go_wp2
    refine bodyPost_ret (v:=.tuple #[.slice a6 nout c6,.bool (decide ((nout:Int)≤4))]) (by simp [results,Try.results26,go_sem]) rfl ?_
    exact ⟨_,by rw [HLE.out],HOJ.out,HBW.out⟩
end Go.Proofs.Ytlaljeobdddegaa
