import Derived.Test.YtlaljeobdddegaaJ34
namespace Go.Proofs.Ytlaljeobdddegaa
open Go.RowKit Mp
def plA (l:List Nat):Array Value:=#[.int .i64 (l.getD 0 0:Nat),.int .i64 (l.getD 1 0:Nat),.int .i64 (l.getD 2 0:Nat),.int .i64 (l.getD 3 0:Nat)]
theorem plA_set (l:List Nat) (x:Nat) (h:l.length<4):(plA l).setIfInBounds l.length (.int .i64 (x:Nat))=plA (l++[x]):=by
 match l,h with
 | [],_=>rfl
 | [_],_=>rfl
 | [_,_],_=>rfl
 | [_,_,_],_=>rfl
theorem plA_num {w:World} {g:Nat} {t:TypeId} {l:List Nat} (h:Blk w g t (plA l)) (h4:l.length≤4):NumR w (some ⟨g,0,none⟩) l:=fun i y hy=>by
 have hi:=(List.getElem?_eq_some_iff.1 hy).1
 have e:l.getD i 0=y:=by rw [List.getD_eq_getElem?_getD,hy];rfl
 have:i=0∨i=1∨i=2∨i=3:=by omega
 refine ⟨g,0,rfl,?_⟩
 rw [Nat.zero_add,←e]
 rcases this with rfl | rfl | rfl | rfl
 ·exact h.cell (i:=0) rfl
 ·exact h.cell (i:=1) rfl
 ·exact h.cell (i:=2) rfl
 ·exact h.cell (i:=3) rfl
theorem plA_old {w:World} {g:Nat} {t:TypeId} {l:List Nat} (h:Blk w g t (plA l)) {i:Nat} (hi:i<4):∃ u,w.cell? ⟨g,i,none⟩=some u:=by
 have:i=0∨i=1∨i=2∨i=3:=by omega
 rcases this with rfl | rfl | rfl | rfl
 ·exact ⟨_,h.cell (i:=0) rfl⟩
 ·exact ⟨_,h.cell (i:=1) rfl⟩
 ·exact ⟨_,h.cell (i:=2) rfl⟩
 ·exact ⟨_,h.cell (i:=3) rfl⟩
theorem places_sl (wx:World) (g n:Nat) (hn:n≤4):(Instr.sliceAt 110 (.pointer (some ⟨g,0,none⟩)) none (some (.int .i64 (n:Int))) none).run Try.prog wx = .ok (.slice (some ⟨g,0,none⟩) n 4) wx:=by
 rw [run_sliceAt_array_h wx _ _ arr4 .i64 (n:Int) (by omega) (by rw [arr4l];omega),arr4s]
 show Result.ok (slicedAt _ 0 (n:Int).toNat _ 1) wx=_
 rw [arr4l,Int.toNat_natCast]
 unfold slicedAt
 rw [addL,if_neg (by omega)];rfl
theorem plc_snoc {l all:List Nat} {k x:Nat} (h:l[k]?=some x):plc (l.take (k+1)) all=plc (l.take k) all++[all.idxOf x]:=by
 unfold plc;rw [take_next _ _ _ h,List.map_append];rfl
theorem or_tab16 (t c s k:Nat) (ht:t<65536) (hc:c<65536) (hs:s<16) (hk:k<16):bits BinOp.or IntKind.u16 (t:Int) (IntKind.u16.wrap (bits BinOp.and IntKind.u16 ((c:Int) / 2 ^ min s 16) 1*2 ^ k))=((t ||| (c / 2 ^ s % 2)*2 ^ k:Nat):Int):=by
 rw [Nat.min_eq_left (by omega)]
 have e1:(c:Int) / 2 ^ s=((c / 2 ^ s:Nat):Int):=by push_cast;rfl
 have h1:c / 2 ^ s≤c:=Nat.div_le_self _ _
 have e2:=u16_and_nat (c / 2 ^ s) 1 (by omega) (by omega)
 rw [e1]
 rw [show ((1:Nat):Int)=1 from rfl] at e2
 rw [e2,nat_mask1]
 have h3:c / 2 ^ s % 2≤1:=by omega
 have e3:((2:Int) ^ k)=((2 ^ k:Nat):Int):=by push_cast;rfl
 have h2:2 ^ k≤2 ^ 15:=Nat.pow_le_pow_right (by omega) (by omega)
 have h4:=Nat.mul_le_mul h3 h2
 rw [e3,←Int.natCast_mul,IntKind.wrap_u16]
 generalize c / 2 ^ s % 2*2 ^ k=m at *
 have e4:(m:Int) % 65536=(m:Int):=by omega
 rw [e4,u16_or_nat _ _ ht (by omega)]
theorem spr_fin (t tb:Nat) (ps:List Nat) (lit:Int) (ht:t=mkB 16 fun k=>tb.testBit (spAt ps k)):bits BinOp.xor IntKind.u16 (t:Int) (IntKind.u16.wrap (-(lit % 2)))=((sprT ps tb (decide (lit % 2=1)):Nat):Int):=by
 have hlt:t<65536:=by rw [ht];exact mkB_lt 16 _
 have h2:lit % 2=0∨lit % 2=1:=by omega
 rcases h2 with e | e
 ·rw [e]
  have e1:IntKind.u16.wrap (-0)=((0:Nat):Int):=by decide
  rw [e1,u16_xor_nat _ _ hlt (by omega),Nat.xor_zero,ht]
  unfold sprT
  simp
 ·rw [e]
  have e1:IntKind.u16.wrap (-1)=((65535:Nat):Int):=by decide
  rw [e1,u16_xor_nat _ _ hlt (by omega),ht]
  congr 1
  refine nat_eq (fun i=>?_)
  unfold sprT
  rw [Nat.testBit_xor,mkB_bit,mkB_bit,show (65535:Nat)=2 ^ 16 - 1 from rfl,Nat.testBit_two_pow_sub_one]
  by_cases hi:i<16
  ·simp [hi]
  ·simp [hi]
set_option maxRecDepth 100000 in
set_option maxHeartbeats 8000000 in
theorem spread_any (w:World) (cb co ab ao:Nat) (c a:Ct) (hc:CtAt w cb co c) (ha:CtAt w ab ao a) (l4:c.lv.length≤4) (a4:a.lv.length≤4) (hs:∀ x,x ∈ c.lv→x ∈ a.lv) (htb:c.tb<65536) (lit:Int) (h0:0≤lit) :
  Calls Try.prog 72 #[.pointer (some ⟨cb,co,none⟩),.pointer (some ⟨ab,ao,none⟩),.int .i64 lit] w fun e w'=>e = .returned (.int .u16 (sprT (plc c.lv a.lv) c.tb (decide (lit % 2=1)):Nat))∧Bl w w':=by
 obtain ⟨g,HG⟩:=exh w.heap.size
 have HCC:Hid (∀ v:World,Below g w v→CtAt v cb co c):=fun v hv=>hc.to (B:=g) (by rw [HG.out];exact hc.lt) hv
 have HCA:Hid (∀ v:World,Below g w v→CtAt v ab ao a):=fun v hv=>ha.to (B:=g) (by rw [HG.out];exact ha.lt) hv
 have HFIN:Hid (∀ v:World,Below g w v→Bl w v):=fun v hv=>by rw [HG.out] at hv;exact hv
 have HLC:Hid (∀ v:World,Below g w v→Calls Try.prog 75 #[.pointer (some ⟨cb,co,none⟩)] v fun e w'=>e = .returned (.slice (some ⟨cb,co,none⟩) c.lv.length c.lv.length)∧w'=v.drewN 1):=fun v hv=>list_any v cb co c (HCC.out v hv) l4
 have HLA:Hid (∀ v:World,Below g w v→Calls Try.prog 75 #[.pointer (some ⟨ab,ao,none⟩)] v fun e w'=>e = .returned (.slice (some ⟨ab,ao,none⟩) a.lv.length a.lv.length)∧w'=v.drewN 1):=fun v hv=>list_any v ab ao a (HCA.out v hv) a4
 have HIX:Hid (∀ (v:World) (x:Nat),Below g w v→x ∈ c.lv→Calls Try.prog 78 #[.slice (some ⟨ab,ao,none⟩) a.lv.length a.lv.length,.int .i64 (x:Nat)] v fun e w'=>e = .returned (.int .i64 (a.lv.idxOf x:Nat))∧w'=v):=fun v x hv hx=>by
  refine (index_any v (some ⟨ab,ao,none⟩) a.lv.length a.lv x (by omega) ((HCA.out v hv).row a4)).mono ?_
  rintro e w' ⟨r,rfl,_,h2,hw⟩
  exact ⟨by rw [h2 (hs x hx)],hw⟩
 have HLF:Hid (∀ (v:World) (k x:Nat),Below g w v→c.lv[k]?=some x→v.cell? ⟨cb,co+k,none⟩=some (.int .i64 (x:Nat))):=fun v k x hv hx=>(HCC.out v hv).leaf l4 hx
 have HC4:Hid (∀ v:World,Below g w v→v.cell? ⟨cb,co+4,none⟩=some (.int .i64 (c.lv.length:Nat))∧v.cell? ⟨cb,co+7,none⟩=some (.int .u16 (c.tb:Nat))):=fun v hv=>⟨(HCC.out v hv).c4,(HCC.out v hv).c7⟩
 have HPL:Hid (∀ p,p ∈ plc c.lv a.lv→p<4):=fun p hp=>by have:=plc_lt hs p hp;omega
 have HPC:Hid (∀ k x,c.lv[k]?=some x→plc (c.lv.take (k+1)) a.lv=plc (c.lv.take k) a.lv++[a.lv.idxOf x]):=fun k x hx=>plc_snoc hx
 have HPN:Hid ((plc c.lv a.lv).length=c.lv.length):=by unfold plc;exact List.length_map _
 have HPK:Hid (∀ k,k≤c.lv.length→(plc (c.lv.take k) a.lv).length=k):=fun k hk=>by unfold plc;rw [List.length_map,List.length_take];omega
 obtain ⟨n,En⟩:=exh c.lv.length
 rw [←En.out] at HLC HC4 HPN HPK l4
 generalize a.lv.length=an at *
 obtain ⟨ps,Eps⟩:=exh (plc c.lv a.lv)
 rw [←Eps.out] at HPL HPN
 rw [←Eps.out]
 generalize c.tb=tb at *
 go_enter Try.func72,Try.ntmps72
 go_upto_region 2 with fail
 have hbk:=Blk.new w 110 #[.int .i64 0,.int .i64 0,.int .i64 0,.int .i64 0]
 have HB0:Hid (Below g w (w.alloc (.cells #[.int .i64 0,.int .i64 0,.int .i64 0,.int .i64 0] 110))):=by rw [HG.out];exact (Below.refl w.heap.size w).alloc (Nat.le_refl _) _
 rw [←HG.out] at hbk ⊢
 generalize w.alloc (.cells #[.int .i64 0,.int .i64 0,.int .i64 0,.int .i64 0] 110)=w0 at *
 clear hc ha hs HCC HCA
 go_wp2_with fail
 go_at_call 75
 refine (HLC.out w0 HB0.out).mono ?_
 rintro e v ⟨rfl,hv⟩
 have HB1:Hid (Below g w v):=by rw [hv];exact Below.drewN HB0.out 1
 have HK1:Hid (Blk v g 110 (plA (plc (c.lv.take 0) a.lv))):=by rw [hv];exact hbk
 clear hv hbk HB0
 go_wp2_with fail
 go_loopw [8,9,18] (fun _ _ i' w'=>∃ k:Nat,k≤n∧i' = .int .i64 (k:Int)∧Hid (Blk w' g 110 (plA (plc (c.lv.take k) a.lv)))∧Hid (Below g w w')) (fun _ _ i' _=>n - (intOf i').toNat)
 case atStart=>exact ⟨0,Nat.zero_le _,rfl,HK1.out,HB1.out⟩
 case round =>
  clear HK1 HB1
  obtain ⟨k,hk,rfl,HK,HB⟩:=hrel
  by_cases hlt:k<n
  ·have hltI:(k:Int)<(n:Int):=by omega
   obtain ⟨x,hx⟩:=getElem_lt (show k<c.lv.length by rw [←En.out];exact hlt)
   have cx:=HLF.out wr k x HB.out hx
   have HX:=hidden hx
   have e2:IntKind.i64.wrap ((k:Int)+1)=(k:Int)+1:=wrapI _ (by omega) (by omega)
   have hk4:(k:Int)<4:=by omega
   have hmem:=List.mem_of_getElem? hx
   have HM:=hidden hmem
   clear hx hmem
   go_wp2_with fail
   go_at_call 75
   refine (HLA.out wr HB.out).mono ?_
   rintro e v2 ⟨rfl,hv⟩
   have HB2:Hid (Below g w v2):=by rw [hv];exact Below.drewN HB.out 1
   have HK2:Hid (Blk v2 g 110 (plA (plc (c.lv.take k) a.lv))):=by rw [hv];exact HK.out
   clear hv HB HK cx
   go_wp2_with fail
   go_at_call 78
   refine (HIX.out v2 x HB2.out HM.out).mono ?_
   rintro e v3 ⟨rfl,hv⟩
   rw [hv]
   clear hv v3
   obtain ⟨u0,hu0⟩:=plA_old HK2.out (show k<4 by omega)
   have hfz:=HK2.out.frozen k
   have HK3:Hid (Blk (v2.setCell ⟨g,k,none⟩ (.int .i64 (a.lv.idxOf x:Nat))) g 110 (plA (plc (c.lv.take (k+1)) a.lv))):=by
    have h1:=HK2.out.set k (.int .i64 (a.lv.idxOf x:Nat))
    have h2:=plA_set (plc (c.lv.take k) a.lv) (a.lv.idxOf x) (by rw [HPK.out k hk];omega)
    rw [HPK.out k hk] at h2
    rw [h2,←HPC.out k x HX.out] at h1
    exact h1
   have HB3:Hid (Below g w (v2.setCell ⟨g,k,none⟩ (.int .i64 (a.lv.idxOf x:Nat)))):=HB2.out.trans ((But.set g k v2 _).below (Nat.le_refl _) (Nat.le_of_lt HK2.out.lt))
   clear HK2 HB2
   generalize a.lv.idxOf x=ix at *
   go_wp2
   go_roundw
   case measure=>simp [intOf];omega
   case rel=>exact ⟨k+1,by omega,by simp,HK3.out,HB3.out⟩
  ·have hge:¬ (k:Int)<(n:Int):=by omega
   have HKF:Hid (Blk wr g 110 (plA ps)):=by
    have:=HK.out
    rw [List.take_of_length_le (by have:=En.out;omega),←Eps.out] at this
    exact this
   clear HK
   obtain ⟨c4,c7⟩:=HC4.out wr HB.out
   have HNR:=hidden (plA_num HKF.out (by rw [HPN.out];exact l4))
   have HBF:=hidden (HFIN.out wr HB.out)
   have RSP:∀ wx:World,(Instr.sliceAt 110 (.pointer (some ⟨g,0,none⟩)) none (some (.int .i64 (n:Int))) none).run Try.prog wx = .ok (.slice (some ⟨g,0,none⟩) n 4) wx:=fun wx=>places_sl wx g n l4
   have HSA:Hid (∀ k,spB ps k n=spAt ps k):=fun k=>by rw [←HPN.out];exact spB_all ps k
   have HLT:Hid (∀ k j,j≤n→spB ps k j<16):=fun k j hj=>Nat.lt_of_lt_of_le (spB_lt ps k j) (Nat.pow_le_pow_right (n:=2) (j:=4) (by omega) (by omega))
   clear HB HKF HLA HLC HIX HLF HPC HPK HFIN HC4
   obtain ⟨W,EW⟩:=exh wr
   have HC4:Hid (W.cell? ⟨cb,co+4,none⟩=some (.int .i64 (n:Nat))∧W.cell? ⟨cb,co+7,none⟩=some (.int .u16 (tb:Nat))):=by rw [EW.out];exact ⟨c4,c7⟩
   rw [←EW.out] at HNR HBF
   clear c4 c7
   go_wp2_with fail
   go_loopw [10,11,12,30] (fun t' _ _ i' w'=>∃ (k t:Nat),k≤16∧i' = .int .i64 (k:Int)∧t' = .int .u16 (t:Int)∧Hid (t=mkB k fun k=>tb.testBit (spAt ps k))∧Hid (w'=W)) (fun _ _ _ i' _=>16 - (intOf i').toNat)
   case atStart=>exact ⟨0,0,Nat.zero_le _,rfl,rfl,rfl,EW.out.symm⟩
   case round =>
    clear EW
    obtain ⟨k,t,hk,rfl,rfl,HT,HW⟩:=hrel
    obtain rfl:=HW.out
    clear HW
    have ht:t<65536:=by
     rw [HT.out]
     exact Nat.lt_of_lt_of_le (mkB_lt k _) (Nat.pow_le_pow_right (n:=2) (j:=16) (by omega) (by omega))
    by_cases hlt:k<16
    ·have hltI:(k:Int)<16:=by omega
     have e2:IntKind.i64.wrap ((k:Int)+1)=(k:Int)+1:=wrapI _ (by omega) (by omega)
     have hk0:(0:Int)≤(k:Int):=by omega
     obtain ⟨c4,c7⟩:=HC4.out
     have HNT:Hid ((t ||| (tb / 2 ^ (spB ps k n) % 2)*2 ^ k)=mkB (k+1) fun k=>tb.testBit (spAt ps k)):=by
      show _=_
      rw [tb_bit,HSA.out,HT.out]
      exact mkB_or k fun k=>tb.testBit (spAt ps k)
     clear HT
     obtain ⟨W,EW⟩:=exh wr
     go_wp2_with fail
     clear c4 RSP
     go_loopw [12,13,14,39] (fun s' _ _ i' w'=>∃ (j s:Nat),j≤n∧i' = .int .i64 (j:Int)∧s' = .int .i64 (s:Int)∧Hid (s=spB ps k j)∧Hid (w'=W)) (fun _ _ _ i' _=>n - (intOf i').toNat)
     case atStart=>exact ⟨0,0,Nat.zero_le _,rfl,rfl,rfl,EW.out.symm⟩
     case round =>
      obtain ⟨j,s,hj,rfl,rfl,HS,HW⟩:=hrel
      have EW2:=EW
      rw [EW.out] at HW
      obtain rfl:=HW.out
      clear HW
      have HS16:Hid (s<16):=by show _<_;rw [HS.out];exact HLT.out k j hj
      by_cases hlt2:j<n
      ·have hltJ:(j:Int)<(n:Int):=by omega
       obtain ⟨p,hp⟩:=getElem_lt (show j<ps.length by rw [HPN.out];exact hlt2)
       obtain ⟨b',o',ea,cx⟩:=HNR.out j p hp
       have HP4:=hidden (HPL.out p (List.mem_of_getElem? hp))
       have hp4:(p:Int)<4:=by have:=HP4.out;omega
       have hp0:(0:Int)≤(p:Int):=by omega
       have hj0:(0:Int)≤(j:Int):=by omega
       have e3:IntKind.i64.wrap ((j:Int)+1)=(j:Int)+1:=wrapI _ (by omega) (by omega)
       have hor:=or_bit s k p j (by have:=HS16.out;omega) (by omega)
       have HNS:Hid ((s ||| (k / 2 ^ p % 2)*2 ^ j)=spB ps k (j+1)):=by
        show _=spB ps k j ||| _
        rw [HS.out,List.getD_eq_getElem?_getD,hp];rfl
       generalize (s ||| (k / 2 ^ p % 2)*2 ^ j)=s2 at *
       simp only [Option.some.injEq,Addr.mk.injEq,and_true] at ea
       obtain ⟨rfl,rfl⟩:=ea
       rw [Nat.zero_add] at cx
       clear hp HS HS16
       go_wp2
       go_roundw
       case measure=>simp [intOf];omega
       case rel=>exact ⟨j+1,s2,by omega,by simp,rfl,HNS.out,EW2.out.symm⟩
      ·have hge:¬ (j:Int)<(n:Int):=by omega
       have hs0:(0:Int)≤(s:Int):=by omega
       have HNS:Hid ((t ||| (tb / 2 ^ s % 2)*2 ^ k)=mkB (k+1) fun k=>tb.testBit (spAt ps k)):=by
        show _=_
        rw [HS.out,show j=n by omega];exact HNT.out
       have hor:=or_tab16 t tb s k ht htb HS16.out hlt
       generalize (t ||| (tb / 2 ^ s % 2)*2 ^ k)=t2 at *
       clear HS HNT HS16
       go_wp2
       go_roundw
       case measure=>simp [intOf];omega
       case rel=>exact ⟨k+1,t2,by omega,by simp,rfl,HNS.out,True.intro⟩
    ·have hge:¬ (k:Int)<16:=by omega
     have hk16:k=16:=by omega
     have hfin:=spr_fin t tb ps lit (by rw [←hk16];exact HT.out)
     obtain ⟨r,Hr⟩:=exh (sprT ps tb (decide (lit % 2=1)))
     rw [←Hr.out] at hfin
     clear HT hk16
     go_wp2
     go_ret
     exact ⟨ret_int (by rw [Hr.out]),HBF.out⟩
end Go.Proofs.Ytlaljeobdddegaa

namespace Go.Proofs.Ytlaljeobdddegaa
open Go.RowKit Mp
theorem mkM_one (v:Nat):mkM [v]=2 ^ (v % 64):=by
 refine nat_eq (fun i=>?_)
 rw [mkM_bit,Nat.testBit_two_pow]
 have h:v % 64<64:=Nat.mod_lt _ (by omega)
 by_cases e:v % 64=i
 ·have:i<64:=by omega
  simp [e,this]
 ·simp [e]
set_option maxRecDepth 100000 in
set_option maxHeartbeats 8000000 in
theorem itself_any (w:World) (v d:Nat) (hv:v≤1000000) :
  Calls Try.prog 56 #[.int .i64 (v:Nat),.int .i64 (d:Nat)] w fun e w'=>e = .returned (.agg (ctC ⟨[v],d,43690⟩).toArray)∧Bl w w':=by
 obtain ⟨g,HG⟩:=exh w.heap.size
 have hbk:=Blk.new w 114 #[.int .i64 0,.int .i64 0,.int .i64 0,.int .i64 0,.int .i64 0,.int .u64 0,.int .i64 0,.int .u16 0]
 have HB0:Hid (Below g w (w.alloc (.cells #[.int .i64 0,.int .i64 0,.int .i64 0,.int .i64 0,.int .i64 0,.int .u64 0,.int .i64 0,.int .u16 0] 114))):=by rw [HG.out];exact (Below.refl w.heap.size w).alloc (Nat.le_refl _) _
 have LF:Hid (∀ u:World,Calls Try.prog 69 #[.int .i64 0] u fun e w'=>e = .returned (.int .u16 43690)∧w'=u):=fun u=>leafTable_any u 0 (by omega)
 have hm:=mkM_one v
 have HM:=hidden hm
 obtain ⟨q,Hq⟩:=exh (v % 64)
 have hq:q<64:=by rw [Hq.out];omega
 have hsh:IntKind.u64.wrap (2 ^ q)=((mkM [v]:Nat):Int):=by
  rw [HM.out,←Hq.out]
  have h1:(2:Nat) ^ q≤2 ^ 63:=Nat.pow_le_pow_right (by omega) (by omega)
  have e1:((2:Int) ^ q)=((2 ^ q:Nat):Int):=by push_cast;rfl
  rw [e1]
  generalize (2:Nat) ^ q=r at *
  exact wrapU _ (by omega) (by omega)
 have hsh2:IntKind.u64.wrap (2 ^ min q 64)=((mkM [v]:Nat):Int):=by rw [Nat.min_eq_left (by omega)];exact hsh
 have hrem:((v:Int)).tmod 64=(q:Int):=by rw [Int.tmod_eq_emod_of_nonneg (by omega),Hq.out];omega
 have hq0:(0:Int)≤(q:Int):=by omega
 have HQ:=hidden hq
 clear hq
 have HF:Hid (∀ u,Below g w u→Bl w u):=fun u hu=>by rw [HG.out] at hu;exact hu
 have HE:Hid ((ctC ⟨[v],d,43690⟩).toArray = #[.int .i64 (v:Nat),.int .i64 0,.int .i64 0,.int .i64 0,.int .i64 1,.int .u64 (mkM [v]:Nat),.int .i64 (d:Nat),.int .u16 43690]):=rfl
 rw [HE.out]
 generalize mkM [v]=M at *
 generalize (43690:Int)=T at LF ⊢
 clear hm HM HE
 go_enter Try.func56,Try.ntmps56
 go_upto_region 1 with fail
 rw [←HG.out] at hbk ⊢
 generalize w.alloc (.cells #[.int .i64 0,.int .i64 0,.int .i64 0,.int .i64 0,.int .i64 0,.int .u64 0,.int .i64 0,.int .u16 0] 114)=w0 at *
 have f0:w0.frozen? ⟨g,0,none⟩=false:=hbk.frozen 0
 have f1:w0.frozen? ⟨g,1,none⟩=false:=hbk.frozen 1
 have f2:w0.frozen? ⟨g,2,none⟩=false:=hbk.frozen 2
 have f3:w0.frozen? ⟨g,3,none⟩=false:=hbk.frozen 3
 have f4:w0.frozen? ⟨g,4,none⟩=false:=hbk.frozen 4
 have f5:w0.frozen? ⟨g,5,none⟩=false:=hbk.frozen 5
 have f6:w0.frozen? ⟨g,6,none⟩=false:=hbk.frozen 6
 have f7:w0.frozen? ⟨g,7,none⟩=false:=hbk.frozen 7
 have z0:w0.cell? ⟨g,0,none⟩=some (.int .i64 0):=hbk.cell (i:=0) rfl
 have z1:w0.cell? ⟨g,1,none⟩=some (.int .i64 0):=hbk.cell (i:=1) rfl
 have z2:w0.cell? ⟨g,2,none⟩=some (.int .i64 0):=hbk.cell (i:=2) rfl
 have z3:w0.cell? ⟨g,3,none⟩=some (.int .i64 0):=hbk.cell (i:=3) rfl
 have z4:w0.cell? ⟨g,4,none⟩=some (.int .i64 0):=hbk.cell (i:=4) rfl
 have z5:w0.cell? ⟨g,5,none⟩=some (.int .u64 0):=hbk.cell (i:=5) rfl
 have z6:w0.cell? ⟨g,6,none⟩=some (.int .i64 0):=hbk.cell (i:=6) rfl
 have z7:w0.cell? ⟨g,7,none⟩=some (.int .u16 0):=hbk.cell (i:=7) rfl
 go_wp2_with fail
 refine wp_region_noPanic ?_
 refine wp_region_held_drew (S:=fun wz=>True) (by kernel_rfl) (by exact True.intro) (fun hHeld=>?_)
 refine tk 0 ?_
 refine tk 1 ?_
 refine tk 2 ?_
 refine tk 3 ?_
 refine tk 4 ?_
 refine tk 5 ?_
 refine rd 6 fun K hK=>?_
 (try simp only [gA,gB,gC]);go_simp
 go_at_call 69
 refine (LF.out w0.drew).mono ?_
 rintro e u ⟨rfl,hu⟩
 rw [hu]
 clear hu u
 go_wp2_with fail
 refine wo hK True.intro fun hHeld2=>?_
 clear hK K
 refine tk 7 ?_
 refine rd 8 fun K hK=>?_
 (try simp only [gA,gB,gC]);go_simp
 refine wo hK True.intro fun hHeld3=>?_
 clear hK K
 refine wpAnyH_done (by kernel_rfl) ?_ _
 refine NoPanic.normal ?_
 have hbz:=Blk.eight (v0:=.int .i64 (v:Nat)) (v1:=.int .i64 0) (v2:=.int .i64 0) (v3:=.int .i64 0) (v4:=.int .i64 1) (v5:=.int .u64 (M:Nat)) (v6:=.int .i64 (d:Nat)) (v7:=.int .u16 T) hbk
 have HBZ:Hid (Bl w ((((((((w0.setCell ⟨g,0,none⟩ (.int .i64 (v:Nat))).setCell ⟨g,1,none⟩ (.int .i64 0)).setCell ⟨g,2,none⟩ (.int .i64 0)).setCell ⟨g,3,none⟩ (.int .i64 0)).setCell ⟨g,4,none⟩ (.int .i64 1)).setCell ⟨g,5,none⟩ (.int .u64 (M:Nat))).setCell ⟨g,6,none⟩ (.int .i64 (d:Nat))).setCell ⟨g,7,none⟩ (.int .u16 T)).drew):=HF.out _ (Below.drew (HB0.out.trans ((But.eight w0 g _ _ _ _ _ _ _ _).below (Nat.le_refl _) (Nat.le_of_lt hbk.lt))))
 have hbz2:Blk ((((((((w0.setCell ⟨g,0,none⟩ (.int .i64 (v:Nat))).setCell ⟨g,1,none⟩ (.int .i64 0)).setCell ⟨g,2,none⟩ (.int .i64 0)).setCell ⟨g,3,none⟩ (.int .i64 0)).setCell ⟨g,4,none⟩ (.int .i64 1)).setCell ⟨g,5,none⟩ (.int .u64 (M:Nat))).setCell ⟨g,6,none⟩ (.int .i64 (d:Nat))).setCell ⟨g,7,none⟩ (.int .u16 T)).drew g 114 #[.int .i64 (v:Nat),.int .i64 0,.int .i64 0,.int .i64 0,.int .i64 1,.int .u64 (M:Nat),.int .i64 (d:Nat),.int .u16 T]:=Blk.drew hbz
 clear f0 f1 f2 f3 f4 f5 f6 f7 z0 z1 z2 z3 z4 z5 z6 z7 hbk hbz HB0 hHeld hHeld2 hHeld3
 generalize ((((((((w0.setCell ⟨g,0,none⟩ (.int .i64 (v:Nat))).setCell ⟨g,1,none⟩ (.int .i64 0)).setCell ⟨g,2,none⟩ (.int .i64 0)).setCell ⟨g,3,none⟩ (.int .i64 0)).setCell ⟨g,4,none⟩ (.int .i64 1)).setCell ⟨g,5,none⟩ (.int .u64 (M:Nat))).setCell ⟨g,6,none⟩ (.int .i64 (d:Nat))).setCell ⟨g,7,none⟩ (.int .u16 T)).drew=w4 at *
 have y0:w4.cell? ⟨g,0,none⟩=some (.int .i64 (v:Nat)):=hbz2.cell (i:=0) rfl
 have y1:w4.cell? ⟨g,1,none⟩=some (.int .i64 0):=hbz2.cell (i:=1) rfl
 have y2:w4.cell? ⟨g,2,none⟩=some (.int .i64 0):=hbz2.cell (i:=2) rfl
 have y3:w4.cell? ⟨g,3,none⟩=some (.int .i64 0):=hbz2.cell (i:=3) rfl
 have y4:w4.cell? ⟨g,4,none⟩=some (.int .i64 1):=hbz2.cell (i:=4) rfl
 have y5:w4.cell? ⟨g,5,none⟩=some (.int .u64 (M:Nat)):=hbz2.cell (i:=5) rfl
 have y6:w4.cell? ⟨g,6,none⟩=some (.int .i64 (d:Nat)):=hbz2.cell (i:=6) rfl
 have y7:w4.cell? ⟨g,7,none⟩=some (.int .u16 T):=hbz2.cell (i:=7) rfl
 go_wp2_with fail
 refine bodyPost_ret (v:=.agg #[.int .i64 (v:Nat),.int .i64 0,.int .i64 0,.int .i64 0,.int .i64 1,.int .u64 (M:Nat),.int .i64 (d:Nat),.int .u16 T]) (by simp [results,Try.results56,go_sem,y0,y1,y2,y3,y4,y5,y6,y7]) rfl ?_
 exact ⟨rfl,HBZ.out⟩
end Go.Proofs.Ytlaljeobdddegaa
