import Derived.Test.YtlaljeobdddegaaJ21
import Derived.Deep.RegionHeld3
import Derived.Test.YtlaljeobdddegaaRows
import Derived.WalkKit
import Derived.WalkSpells
import Derived.WalkLawsBesides
import Derived.Deep.QuietTactic
import Derived.BigQuiet
import Derived.Deep.Cut
import Derived.Deep.CutBlock
import Derived.Deep.RegionHeldLaw
namespace Go.Proofs.Ytlaljeobdddegaa
open Go.RowKit
theorem sees_of {W w':World} (h:Below W.heap.size W w'):Below W.heap.size W w'∧(∀ b' o,b'<W.heap.size→w'.cell? ⟨b',o,none⟩=W.cell? ⟨b',o,none⟩):=⟨h,fun b' o hb=>h.cell (p:=⟨b',o,none⟩) hb⟩
theorem sees_after {W a b:World} (h:Below W.heap.size W a∧(∀ b' o,b'<W.heap.size→a.cell? ⟨b',o,none⟩=W.cell? ⟨b',o,none⟩)) (hb:Below a.heap.size a b):Below W.heap.size W b∧(∀ b' o,b'<W.heap.size→b.cell? ⟨b',o,none⟩=W.cell? ⟨b',o,none⟩) :=
 sees_of (h.1.trans (hb.mono h.1.size))
structure TR where
 a:Option Addr
 c:Nat
 l:List Bool
def TR.cells (t:TR):List Value:=[.slice t.a t.l.length t.c]
structure TrAt (B:Nat) (w:World) (a:Option Addr) (trs:List TR):Prop where
 row:RowAt B w a 1 (trs.map TR.cells)
 each:∀ t,t ∈ trs→RowAt B w t.a 1 (t.l.map bC)
 len:trs.length≤5864062014805
theorem TrAt.to {B:Nat} {w w':World} {a:Option Addr} {trs:List TR} (h:TrAt B w a trs) (hb:Below B w w'):TrAt B w' a trs:=⟨h.row.to hb,fun t ht=>(h.each t ht).to hb,h.len⟩
theorem TrAt.mono {B B':Nat} {w:World} {a:Option Addr} {trs:List TR} (h:TrAt B w a trs) (hb:B≤B'):TrAt B' w a trs:=⟨h.row.mono hb,fun t ht=>(h.each t ht).mono hb,h.len⟩
structure RD where
 v:Value
 l:List Bool
def Far (a b:Value):Prop:=∀ x,a.ownBlock=some x→b.ownBlock≠some x
theorem BS.blk {w:World} {v:Value} {l:List Bool} (h:BS w v l):∀ x,v.ownBlock=some x→x<w.heap.size:=by
 intro x hx
 rcases h with ⟨rfl,_⟩ | ⟨b,o,c,rfl,hlt,_⟩
 ·cases hx
 ·cases hx;exact hlt
theorem BS.kept {w w':World} {v:Value} {l:List Bool} {row:Option Nat} (h:BS w v l) (hg:w.grownBy w' row) (hne:∀ x,row=some x→v.ownBlock≠some x):BS w' v l:=by
 rcases h with h | ⟨b,o,c,rfl,hlt,hc⟩
 ·exact .inl h
 ·refine .inr ⟨b,o,c,rfl,Nat.lt_of_lt_of_le hlt hg.size,fun i x hx=>?_⟩
  refine (World.cell?_of_block (w:=w) (a:=⟨b,o+i,none⟩) (hg.block b hlt ?_)).trans (hc i x hx)
  intro e
  exact hne b e.symm rfl
theorem Far.new {w:World} {a b:Value} {l:List Bool} (h:Far a b) (hb:BS w b l) {g H m cap:Nat} (hg:a.ownBlock=some g∨g=H) (hH:w.heap.size≤H):Far (.slice (some ⟨g,0,none⟩) m cap) b:=by
 intro x hx
 have e:g=x:=by cases hx;rfl
 subst e
 rcases hg with hg | hg
 ·exact h g hg
 ·intro hb2
  have:=hb.blk g hb2
  omega
theorem far_own {w w':World} {C e e' n m C':Nat} {a b:Value} {xs ys:List Value} (ha:w.ownsRow C e 1 a n xs) (hb:w'.ownsRow C' e' 1 b m ys) (hC:w.heap.size≤C'):Far a b:=by
 intro x hx hy
 have h1:=(ha.lt x hx).2
 have h2:=(hb.lt x hy).1
 omega
set_option maxRecDepth 100000 in
set_option maxHeartbeats 8000000 in
theorem graphRun_any (B:Nat) (w:World) (S:GrS) (G:GrD) (h:GrAt B w S G) (hB:B≤w.heap.size) (hs:G.small) (ha:AndsIn G) (hli:LatsIn G (1+G.ins.toNat+G.lats.length+G.ands.length)) (hoi:OutsIn G (1+G.ins.toNat+G.lats.length+G.ands.length)) (ta:Option Addr) (tc:Nat) (trs:List TR) (ht:TrAt B w ta trs) :
  Calls Try.prog 13 #[.agg (S.cells G),.slice ta trs.length tc] w fun e w'=>∃ v,∃ rows:List RD,e = .returned v∧w'.ownsRow w.heap.size 30 1 v trs.length (rows.map RD.v)∧rows.map RD.l=runN G (trs.map TR.l) (initN G)∧(∀ r,r ∈ rows→BS w' r.v r.l)∧Below w.heap.size w w':=by
 have STS:Hid (∀ w',Below w.heap.size w w'→Calls Try.prog 10 #[.agg (S.cells G)] w' fun e w''=>∃ v,e = .returned v∧w''.ownsRow w'.heap.size 4 1 v G.lats.length ((initN G).map bV)∧Below w'.heap.size w' w''):=fun w' hw'=>states_any B w' S G (h.to (hw'.mono hB)) (Nat.le_trans hB hw'.size)
 have NXT:Hid (∀ w',Below w.heap.size w w'→∀ (t:TR),t ∈ trs→∀ (st:List Bool),st.length=G.lats.length→∀ sv,BS w' sv st→Calls Try.prog 24 #[.agg (S.cells G),.slice t.a t.l.length t.c,sv] w' fun e w''=>∃ vn vo,e = .returned (.tuple #[vn,vo])∧w''.ownsRow w'.heap.size 4 1 vn G.lats.length ((nextN G (cycN G t.l st)).map bV)∧w''.ownsRow w'.heap.size 4 1 vo G.outs.length ((outN G (cycN G t.l st)).map bV)∧Below w'.heap.size w' w'') :=
  fun w' hw' t htm st hst sv hsv=>next_any B w' S G (h.to (hw'.mono hB)) (Nat.le_trans hB hw'.size) hs ha hli hoi t.l st hst t.a t.c ((ht.each t htm).to (hw'.mono hB)) sv hsv
 have HT:Hid (RowAt B w ta 1 (trs.map TR.cells)):=ht.row
 have hlen:=ht.len
 have HIL:Hid ((initN G).length=G.lats.length):=by show _=_;unfold initN;simp
 obtain ⟨i0,HI0⟩:∃ i0,Hid (initN G=i0):=⟨_,rfl⟩
 rw [HI0.out] at STS HIL ⊢
 unfold GrS.cells at *
 clear ha hli hoi hs ht
 obtain ⟨ib,hib,hzb,hsb,hbb⟩:=info_sl
 have HI:=hidden hib
 have HZ:=hidden hzb
 have HS:=hidden hsb
 have HBY:=hidden hbb
 clear hib hzb hsb hbb
 go_enter Try.func13,Try.ntmps13
 go_upto_region 1 with fail
 generalize hW:World.alloc w _=W
 have HB:Hid (Below w.heap.size w W):=by rw [←hW];exact (Below.refl _ _).alloc (Nat.le_refl _) _
 have hN:w.heap.size<W.heap.size:=by rw [←hW];simp
 have HX:Hid (BoxAt W w.heap.size S G):=by
  rw [←hW]
  exact ⟨by simp,by simp,by simp,by simp,by simp⟩
 have HAW:Hid (GrAt B W S G):=h.to (HB.out.mono hB)
 have hBW:B≤W.heap.size:=Nat.le_trans hB HB.out.size
 clear hW h
 have q0:=HX.out.c0
 have q1:=HX.out.c1
 have q2:=HX.out.c2
 have q3:=HX.out.c3
 go_wp2_with (go_at_call 10;refine (STS.out _ HB.out).mono ?_;rintro e V ⟨v,rfl,hov,hbv⟩;have HBV:=hidden hbv;have HOV:=hidden (BS.of hov);clear hov hbv)
 clear q0 q1 q2 q3 STS
 go_loopw [5,6,7] (fun sv all i' w'=>∃ (k:Nat) (rows:List RD),k≤trs.length∧i' = .int .i64 k∧Hid (BS w' sv (stN G i0 ((trs.take k).map TR.l)))∧Hid (w'.ownsRow W.heap.size 30 1 all k (rows.map RD.v))∧Hid (rows.map RD.l=runN G ((trs.take k).map TR.l) i0)∧Hid (∀ r,r ∈ rows→BS w' r.v r.l∧Far all r.v)∧Hid (Far all sv)∧Hid (Below W.heap.size W w')) (fun _ _ i' _=>trs.length - (intOf i').toNat)
 case atStart =>
  exact ⟨0,[],Nat.zero_le _,rfl,HOV.out,World.ownsRow_nil _ _ _ _,rfl,fun r hr=>by simp at hr,fun x hx=>(by cases hx),HBV.out⟩
 case round =>
  obtain ⟨k,rows,hk,rfl,HSV,HO,HRL,HRB,HFS,HBr⟩:=hrel
  have hNr:w.heap.size<wr.heap.size:=Nat.lt_of_lt_of_le hN HBr.out.size
  have q0:=(HBr.out.cell (p:=⟨w.heap.size,0,none⟩) hN).trans HX.out.c0
  have q1:=(HBr.out.cell (p:=⟨w.heap.size,1,none⟩) hN).trans HX.out.c1
  have q2:=(HBr.out.cell (p:=⟨w.heap.size,2,none⟩) hN).trans HX.out.c2
  have q3:=(HBr.out.cell (p:=⟨w.heap.size,3,none⟩) hN).trans HX.out.c3
  by_cases hlt:k<trs.length
  ·obtain ⟨t,hz⟩:=getElem_lt hlt
   obtain ⟨tb,tq,ea,htb,htc⟩:=(HT.out.to (HB.out.mono hB)).el hz
   have htbr:tb<wr.heap.size:=Nat.lt_of_lt_of_le (Nat.lt_of_lt_of_le htb hBW) HBr.out.size
   have c0:wr.cell? ⟨tb,tq+k,none⟩=some (.slice t.a t.l.length t.c):=(HBr.out.cell (p:=⟨tb,tq+k,none⟩) (Nat.lt_of_lt_of_le htb hBW)).trans (by have:=htc 0 _ rfl;simpa using this)
   subst ea
   have hltI:(k:Int)<(trs.length:Int):=by omega
   have e3:IntKind.i64.wrap ((k:Int)+1)=(k:Int)+1:=wrapI _ (by omega) (by omega)
   obtain ⟨st,HST⟩:∃ st,Hid (stN G i0 ((trs.take k).map TR.l)=st):=⟨_,rfl⟩
   have hsl:st.length=G.lats.length:=by rw [←HST.out];exact st_length G _ _ HIL.out
   have HSV2:Hid (BS wr u5 st):=by have:=HSV.out;rwa [HST.out] at this
   have HNS:Hid (stN G i0 ((trs.take (k+1)).map TR.l)=nextN G (cycN G t.l st)):=by
    show _=_
    rw [take_next _ k t hz,List.map_append,show [t].map TR.l=[t.l] from rfl,st_snoc,HST.out]
   have HNR:Hid (runN G ((trs.take (k+1)).map TR.l) i0=runN G ((trs.take k).map TR.l) i0++[outN G (cycN G t.l st)]):=by
    show _=_
    rw [take_next _ k t hz,List.map_append,show [t].map TR.l=[t.l] from rfl,run_snoc,HST.out]
   have NX:Hid (∀ w',Below wr.heap.size wr w'→Calls Try.prog 24 #[.agg #[.int .i64 G.ins,.slice S.a1 G.lats.length S.c1,.slice S.a2 G.ands.length S.c2,.slice S.a3 G.outs.length S.c3],.slice t.a t.l.length t.c,u5] w' fun e w''=>∃ vn vo,e = .returned (.tuple #[vn,vo])∧w''.ownsRow w'.heap.size 4 1 vn G.lats.length ((nextN G (cycN G t.l st)).map bV)∧w''.ownsRow w'.heap.size 4 1 vo G.outs.length ((outN G (cycN G t.l st)).map bV)∧Below w'.heap.size w' w'') :=
    fun w' hw'=>NXT.out w' (HB.out.trans ((HBr.out.trans (hw'.mono HBr.out.size)).mono HB.out.size)) t (List.mem_of_getElem? hz) st hsl u5 (HSV2.out.to hw')
   clear hz htc HSV
   generalize nextN G (cycN G t.l st)=nx at *
   generalize outN G (cycN G t.l st)=ox at *
   generalize t.l.length=tl at *
   generalize t.a=tA at *
   generalize t.c=tC at *
   go_wp2_with fail
   go_region_held3 (fun w'=>Below wr.heap.size wr w'∧(∀ b' o,b'<wr.heap.size→w'.cell? ⟨b',o,none⟩=wr.cell? ⟨b',o,none⟩))
    (first | assumption | exact sees_of (Below.refl _ _) | exact sees_of (Below.refl _ _).drew | exact sees_after (by assumption) (by assumption))
    (first | (go_at_call 24;refine (NX.out _ (And.left (by assumption))).mono ?_;rintro e w2 ⟨vn,vo,rfl,hn2,ho2,hb2⟩))
   all_goals
    obtain ⟨pre,HPW,HN2,HO2,HB2⟩:∃ pre:World,Hid (Below wr.heap.size wr pre)∧Hid (w2.ownsRow pre.heap.size 4 1 vn G.lats.length (nx.map bV))∧Hid (w2.ownsRow pre.heap.size 4 1 vo G.outs.length (ox.map bV))∧Hid (Below pre.heap.size pre w2):=by
     refine ⟨_,?_,hn2,ho2,hb2⟩
     first | exact And.left (by assumption) | exact (Below.refl _ _).drew | exact Below.refl _ _
    clear hn2 ho2 hb2
    obtain ⟨oa,oc,hvo,-⟩:=(BS.of HO2.out).row
    subst hvo
    have HBW:Hid (Below wr.heap.size wr w2):=HPW.out.trans (HB2.out.mono HPW.out.size)
    have HO3:Hid (w2.ownsRow W.heap.size 30 1 u6 k (rows.map RD.v)):=own_below HO.out HBW.out
    have HRB3:Hid (∀ r,r ∈ rows→BS w2 r.v r.l∧Far u6 r.v):=fun r hr=>⟨(HRB.out r hr).1.to HBW.out,(HRB.out r hr).2⟩
    have HFN:Hid (Far u6 vn):=far_own HO.out HN2.out HPW.out.size
    have HFO:Hid (Far u6 (.slice oa ox.length oc)):=far_own HO.out HO2.out HPW.out.size
    have HBN:Hid (BS w2 vn nx):=BS.of HN2.out
    have HBO:Hid (BS w2 (.slice oa ox.length oc) ox):=BS.of HO2.out
    have HW2:Hid (Below W.heap.size W w2):=HBr.out.trans (HBW.out.mono HBr.out.size)
    have hsz:=HW2.out.size
    have hm1:k+1≤maxLen:=by simp only [maxLen];omega
    have hm2:(k+1)*24≤140737488355328:=by omega
    have hm3:W.heap.size≤(w2.alloc (.cells #[.slice oa ox.length oc] 30)).heap.size:=by simp;omega
    clear HN2 HO2 HPW HB2 HBW HO HRB NX q0 q1 q2 q3 c0 HSV2
    have tok:True:=trivial
    go_wp2_with (have _t:=tok;at_builtin;(refine wpList_append_lies _ rfl (.tmp 28) (.tmp 30) 27 rfl W.heap.size 30 ib _ 1 24 Try.underlying27 HI.out HZ.out HS.out HBY.out rfl (by decide) u6 k _ rfl (HO3.out.alloc _) ⟨w2.heap.size,0,none⟩ 1 1 [.slice oa ox.length oc] rfl rfl (World.news_of_block (heap_new _ _)) (by simp [Value.oneCell']) (by decide) hm1 hm2 hm3 _ rfl ?_;intro g cap w5 hown hgrow hat5 hlt5;clear tok))
    have HAL:Hid (∀ v l,BS w2 v l→Far u6 v→BS w5 v l∧Far (.slice (some ⟨g,0,none⟩) (k+1) cap) v):=fun v l hv hf=>by
     have hv1:BS (w2.alloc (.cells #[.slice oa ox.length oc] 30)) v l:=hv.to ((Below.refl _ _).alloc (Nat.le_refl _) _)
     exact ⟨hv1.kept hgrow hf,hf.new hv1 hat5 (Nat.le_refl _)⟩
    have HO5:Hid (w5.ownsRow W.heap.size 30 1 (.slice (some ⟨g,0,none⟩) (k+1) cap) (k+1) ((rows++[(RD.mk (.slice oa ox.length oc) ox)]).map RD.v)):=by
     show World.ownsRow _ _ _ _ _ _ _
     rw [List.map_append]
     exact hown
    have HB5:Hid (Below W.heap.size W w5):=grown_plain HW2.out HO3.out hgrow
    have HR5:Hid (∀ r,r ∈ rows++[(RD.mk (.slice oa ox.length oc) ox)]→BS w5 r.v r.l∧Far (.slice (some ⟨g,0,none⟩) (k+1) cap) r.v):=by
     intro r hr
     rcases List.mem_append.1 hr with hr | hr
     ·exact HAL.out _ _ (HRB3.out r hr).1 (HRB3.out r hr).2
     ·rw [List.mem_singleton.1 hr]
      exact HAL.out _ _ HBO.out HFO.out
    have HN5:=hidden (HAL.out _ _ HBN.out HFN.out)
    have HL5:Hid ((rows++[(RD.mk (.slice oa ox.length oc) ox)]).map RD.l=runN G ((trs.take (k+1)).map TR.l) i0):=by
     show _=_
     rw [List.map_append,HNR.out,HRL.out];rfl
    have HS5:Hid (BS w5 vn (stN G i0 ((trs.take (k+1)).map TR.l))):=by
     show BS _ _ _
     rw [HNS.out];exact HN5.out.1
    clear hown hgrow hat5 hlt5 hm1 hm2 hm3 HO3 HW2 HAL HRL HNR HNS HBO HFO HBN HFN HRB3 HFS HBr
    go_wp2
    go_roundw
    case measure=>simp [intOf];omega
    case rel=>exact ⟨k+1,_,by omega,by simp,HS5.out,HO5.out,HL5.out,HR5.out,HN5.out.2,HB5.out⟩
  ·have hge:¬ ((k:Int)<(trs.length:Int)):=by omega
   have HO6:Hid (wr.ownsRow W.heap.size 30 1 u6 trs.length (rows.map RD.v)):=by
    have:=HO.out
    rwa [show k=trs.length by omega] at this
   have HL6:Hid (rows.map RD.l=runN G (trs.map TR.l) i0):=by
    have:=HRL.out
    rwa [List.take_of_length_le (by omega)] at this
   clear HO HRL
   go_wp2
   go_ret
   exact ⟨_,rfl,rows,own_mono HO6.out HB.out.size,HL6.out,fun r hr=>(HRB.out r hr).1,HB.out.trans (HBr.out.mono HB.out.size)⟩
end Go.Proofs.Ytlaljeobdddegaa

namespace Go.Proofs.Ytlaljeobdddegaa
open Go.RowKit
set_option maxRecDepth 100000 in
set_option maxHeartbeats 8000000 in
theorem sameBools_any (w:World) (a1 a2:Option Addr) (c1 c2:Nat) (l:List Bool) (hl:l.length<big) (R1:Hid (RowAt w.heap.size w a1 1 (l.map bC))) (R2:Hid (RowAt w.heap.size w a2 1 (l.map bC))) :
  Calls Try.prog 9 #[.slice a1 l.length c1,.slice a2 l.length c2] w fun e w'=>e = .returned (.bool true)∧∃ q,w'=w.drewN q:=by
 simp only [big] at hl
 go_enter Try.func9,Try.ntmps9
 go_wp2_with fail
 go_loopw [5] (fun i' w'=>∃ (k:Nat),k≤l.length∧i' = .int .i64 k∧Hid (∃ q,w'=w.drewN q)) (fun i' _=>l.length - (intOf i').toNat)
 case atStart=>exact ⟨0,Nat.zero_le _,rfl,⟨0,rfl⟩⟩
 case round =>
  obtain ⟨k,hk,rfl,HQ⟩:=hrel
  obtain ⟨q,rfl⟩:=HQ.out
  by_cases hlt:k<l.length
  ·obtain ⟨x,hx⟩:=getElem_lt hlt
   obtain ⟨d1,p1,rfl,-,cx1⟩:=rowB R1.out hx
   obtain ⟨d2,p2,rfl,-,cx2⟩:=rowB R2.out hx
   have hltI:(k:Int)<(l.length:Int):=by omega
   have e3:IntKind.i64.wrap ((k:Int)+1)=(k:Int)+1:=wrapI _ (by omega) (by omega)
   clear hx HQ
   cases x
   ·go_wp2_with fail
    go_quiet (fail)
    go_wp2
    go_roundw
    case measure=>simp [intOf];omega
    case rel=>exact ⟨k+1,by omega,by simp,⟨_,rfl⟩⟩
   ·go_wp2_with fail
    go_quiet (fail)
    go_wp2
    go_roundw
    case measure=>simp [intOf];omega
    case rel=>exact ⟨k+1,by omega,by simp,⟨_,rfl⟩⟩
  ·have hge:¬ ((k:Int)<(l.length:Int)):=by omega
   clear HQ
   go_wp2
   go_ret
   exact ⟨rfl,_,rfl⟩
def RowsAt (w:World) (a:Option Addr) (rows:List RD):Prop:=∀ (i:Nat) (r:RD),rows[i]?=some r→∃ b o,a=some ⟨b,o,none⟩∧b<w.heap.size∧w.cell? ⟨b,o+i,none⟩=some r.v∧BS w r.v r.l
set_option maxRecDepth 100000 in
set_option maxHeartbeats 8000000 in
theorem sameRows_any (w:World) (a1 a2:Option Addr) (c1 c2:Nat) (ra rb:List RD) (n:Nat) (hn1:ra.length=n) (hn2:rb.length=n) (hl:n<big) (H1:Hid (RowsAt w a1 ra)) (H2:Hid (RowsAt w a2 rb)) (HE:Hid (ra.map RD.l=rb.map RD.l)) (hbig:∀ r,r ∈ ra→r.l.length<big) :
  Calls Try.prog 11 #[.slice a1 n c1,.slice a2 n c2] w fun e w'=>e = .returned (.bool true)∧∃ q,w'=w.drewN q:=by
 simp only [big] at hl
 go_enter Try.func11,Try.ntmps11
 go_wp2_with fail
 go_loopw [5] (fun i' w'=>∃ (k:Nat),k≤n∧i' = .int .i64 k∧Hid (∃ q,w'=w.drewN q)) (fun i' _=>n - (intOf i').toNat)
 case atStart=>exact ⟨0,Nat.zero_le _,rfl,⟨0,rfl⟩⟩
 case round =>
  obtain ⟨k,hk,rfl,HQ⟩:=hrel
  have HBw:Hid (Below w.heap.size w wr):=by obtain ⟨q,rfl⟩:=HQ.out;exact Below.drewN (Below.refl _ _) _
  by_cases hlt:k<n
  ·obtain ⟨r1,hr1⟩:∃ r,ra[k]?=some r:=getElem_lt (by omega)
   obtain ⟨r2,hr2⟩:∃ r,rb[k]?=some r:=getElem_lt (by omega)
   obtain ⟨d1,p1,rfl,l1,cx1,b1⟩:=H1.out k r1 hr1
   obtain ⟨d2,p2,rfl,l2,cx2,b2⟩:=H2.out k r2 hr2
   have el:r1.l=r2.l:=by
    have:=congrArg (fun l=>l[k]?) HE.out
    simpa [hr1,hr2] using this
   have hbl:=hbig r1 (List.mem_of_getElem? hr1)
   rw [←el] at b2
   obtain ⟨x1,z1,e1,w1⟩:=b1.row
   obtain ⟨x2,z2,e2,w2⟩:=b2.row
   replace cx1:=(HBw.out.cell (p:=⟨d1,p1+k,none⟩) l1).trans cx1
   replace cx2:=(HBw.out.cell (p:=⟨d2,p2+k,none⟩) l2).trans cx2
   rw [e1] at cx1
   rw [e2] at cx2
   have SB:Hid (∀ v,Below w.heap.size w v→Calls Try.prog 9 #[.slice x1 r1.l.length z1,.slice x2 r1.l.length z2] v fun e w'=>e = .returned (.bool true)∧∃ q,w'=v.drewN q):=fun v hv=>sameBools_any v x1 x2 z1 z2 r1.l hbl ((w1.to hv).mono hv.size) ((w2.to hv).mono hv.size)
   generalize r1.l.length=ln at *
   have hltI:(k:Int)<(n:Int):=by omega
   have e3:IntKind.i64.wrap ((k:Int)+1)=(k:Int)+1:=wrapI _ (by omega) (by omega)
   clear hr1 hr2 el b1 b2 w1 w2 e1 e2 hbl l1 l2
   go_wp2_with fail
   go_quiet ((go_at_call 9;exact Calls.quiet_of (SB.out _ (Below.drewN HBw.out _))))
   go_wp2
   go_roundw
   case measure=>simp [intOf];omega
   case rel =>
    obtain ⟨q,hq⟩:=HQ.out
    exact ⟨k+1,by omega,by simp,⟨q+nq,by rw [hq,World.drewN_drewN]⟩⟩
  ·have hge:¬ ((k:Int)<(n:Int)):=by omega
   go_wp2
   go_ret
   exact ⟨rfl,HQ.out⟩
end Go.Proofs.Ytlaljeobdddegaa

namespace Go.Proofs.Ytlaljeobdddegaa.L
open Go.RowKit
theorem ret_bool {a b:Bool} (h:a=b):Ending.returned (.bool a) = .returned (.bool b):=by rw [h]
theorem ret_int {k:IntKind} {a b:Int} (h:a=b):Ending.returned (.int k a) = .returned (.int k b):=by rw [h]
theorem wrapI (x:Int) (h0:-9223372036854775808≤x) (h1:x<9223372036854775808):IntKind.i64.wrap x=x:=by
 rw [IntKind.wrap_i64];omega
theorem hidden {p:Prop} (h:p):Hid p:=h
theorem Below.drewN {B:Nat} {a w:World} (h:Below B a w) (n:Nat):Below B a (w.drewN n):=⟨h.os,h.tape,h.output,h.size,h.block⟩
theorem take_next {α:Type} (l:List α) (k:Nat) (x:α) (h:l[k]?=some x):l.take (k+1)=l.take k++[x]:=by
 rw [List.take_add_one,h];rfl
theorem all_next {α:Type} (p:α→Bool) (l:List α) (k:Nat) (x:α) (h:l[k]?=some x):(l.take (k+1)).all p=((l.take k).all p && p x):=by
 rw [take_next l k x h,List.all_append];simp
theorem range_next (p:Nat→Bool) (k:Nat):(List.range (k+1)).all p=((List.range k).all p && p k):=by
 rw [List.range_succ,List.all_append];simp
theorem getElem_lt {α:Type} {l:List α} {k:Nat} (h:k<l.length):∃ d,l[k]?=some d:=⟨l[k],List.getElem?_eq_getElem h⟩
theorem range_false {p:Nat→Bool} {n k:Nat} (h:k<n) (hp:p k=false):(List.range n).all p=false:=by
 rw [List.all_eq_false];exact ⟨k,List.mem_range.2 h,by simp [hp]⟩
def RowAt (B:Nat) (w:World) (a:Option Addr) (sz:Nat) (els:List (List Value)):Prop :=
 els≠[]→∃ b o,a=some ⟨b,o,none⟩∧b<B∧∀ (i:Nat) (cs:List Value),els[i]?=some cs→∀ (j:Nat) (x:Value),cs[j]?=some x→w.cell? ⟨b,o+i*sz+j,none⟩=some x
theorem RowAt.to {B:Nat} {w w':World} {a:Option Addr} {sz:Nat} {els:List (List Value)} (h:RowAt B w a sz els) (hb:Below B w w'):RowAt B w' a sz els:=fun he=>by
 obtain ⟨b,o,ha,hlt,hc⟩:=h he
 exact ⟨b,o,ha,hlt,fun i cs h1 j x h2=>(hb.cell (p:=⟨b,o+i*sz+j,none⟩) hlt).trans (hc i cs h1 j x h2)⟩
theorem RowAt.mono {B B':Nat} {w:World} {a:Option Addr} {sz:Nat} {els:List (List Value)} (h:RowAt B w a sz els) (hb:B≤B'):RowAt B' w a sz els:=fun he=>by
 obtain ⟨b,o,ha,hlt,hc⟩:=h he
 exact ⟨b,o,ha,Nat.lt_of_lt_of_le hlt hb,hc⟩
theorem RowAt.el {B:Nat} {w:World} {a:Option Addr} {sz:Nat} {α:Type} {f:α→List Value} {xs:List α} (h:RowAt B w a sz (xs.map f)) {i:Nat} {x:α} (hx:xs[i]?=some x) :
  ∃ b o,a=some ⟨b,o,none⟩∧b<B∧∀ (j:Nat) (v:Value),(f x)[j]?=some v→w.cell? ⟨b,o+i*sz+j,none⟩=some v:=by
 obtain ⟨b,o,ha,hlt,hc⟩:=h (by intro e;have:xs=[]:=List.map_eq_nil_iff.1 e;rw [this] at hx;simp at hx)
 exact ⟨b,o,ha,hlt,hc i (f x) (by simp [hx])⟩
def intC (x:Int):List Value:=[.int .i64 x]
def boolC (x:Bool):List Value:=[.bool x]
theorem RowAt.int {B:Nat} {w:World} {a:Option Addr} {xs:List Int} (h:RowAt B w a 1 (xs.map intC)) {i:Nat} {x:Int} (hx:xs[i]?=some x) :
  ∃ b o,a=some ⟨b,o,none⟩∧b<B∧w.cell? ⟨b,o+i,none⟩=some (.int .i64 x):=by
 obtain ⟨b,o,ha,hlt,hc⟩:=h.el hx
 exact ⟨b,o,ha,hlt,(congrArg (fun m=>w.cell? ⟨b,o+m,none⟩) (Nat.mul_one i).symm).trans (hc 0 _ rfl)⟩
structure TbD where
 a:Option Addr
 c:Nat
 ins:List Int
 bits:Int
def TbD.cells (d:TbD):List Value:=[.slice d.a d.ins.length d.c,.int .i64 d.bits]
structure NtD where
 ins:Int
 init:List Bool
 tabs:List TbD
 next:List Int
 outs:List Int
structure NtS where
 a1:Option Addr
 c1:Nat
 a2:Option Addr
 c2:Nat
 a3:Option Addr
 c3:Nat
 a4:Option Addr
 c4:Nat
def NtS.cells (S:NtS) (N:NtD):Array Value:=#[.int .i64 N.ins,.slice S.a1 N.init.length S.c1,.slice S.a2 N.tabs.length S.c2,.slice S.a3 N.next.length S.c3,.slice S.a4 N.outs.length S.c4]
def big:Nat:=17592186044416
def huge:Nat:=281474976710656
structure NtAt (B:Nat) (w:World) (S:NtS) (N:NtD):Prop where
 i:RowAt B w S.a1 1 (N.init.map boolC)
 t:RowAt B w S.a2 2 (N.tabs.map TbD.cells)
 ti:∀ d,d ∈ N.tabs→RowAt B w d.a 1 (d.ins.map intC)
 n:RowAt B w S.a3 1 (N.next.map intC)
 o:RowAt B w S.a4 1 (N.outs.map intC)
 li:N.init.length<huge
 lt:N.tabs.length<big
 lti:∀ d,d ∈ N.tabs→d.ins.length<big
 ln:N.next.length<big
 lo:N.outs.length<big
theorem NtAt.to {B:Nat} {w w':World} {S:NtS} {N:NtD} (h:NtAt B w S N) (hb:Below B w w'):NtAt B w' S N :=
 ⟨h.i.to hb,h.t.to hb,fun d hd=>(h.ti d hd).to hb,h.n.to hb,h.o.to hb,h.li,h.lt,h.lti,h.ln,h.lo⟩
structure BoxAt (w:World) (p:Nat) (S:NtS) (N:NtD):Prop where
 lt:p<w.heap.size
 c0:w.cell? ⟨p,0,none⟩=some (.int .i64 N.ins)
 c1:w.cell? ⟨p,1,none⟩=some (.slice S.a1 N.init.length S.c1)
 c2:w.cell? ⟨p,2,none⟩=some (.slice S.a2 N.tabs.length S.c2)
 c3:w.cell? ⟨p,3,none⟩=some (.slice S.a3 N.next.length S.c3)
 c4:w.cell? ⟨p,4,none⟩=some (.slice S.a4 N.outs.length S.c4)
theorem BoxAt.to {B:Nat} {w w':World} {p:Nat} {S:NtS} {N:NtD} (h:BoxAt w p S N) (hp:p<B) (hb:Below B w w'):BoxAt w' p S N :=
 ⟨Nat.lt_of_lt_of_le h.lt hb.size,(hb.cell (p:=⟨p,0,none⟩) hp).trans h.c0,(hb.cell (p:=⟨p,1,none⟩) hp).trans h.c1,(hb.cell (p:=⟨p,2,none⟩) hp).trans h.c2,(hb.cell (p:=⟨p,3,none⟩) hp).trans h.c3,(hb.cell (p:=⟨p,4,none⟩) hp).trans h.c4⟩
theorem BoxAt.new (w:World) (S:NtS) (N:NtD):BoxAt (w.alloc (.cells #[.int .i64 N.ins,.slice S.a1 N.init.length S.c1,.slice S.a2 N.tabs.length S.c2,.slice S.a3 N.next.length S.c3,.slice S.a4 N.outs.length S.c4] 34)) w.heap.size S N :=
 ⟨by simp,by simp,by simp,by simp,by simp,by simp⟩
def NtD.first (N:NtD):Int:=2+N.ins+N.init.length
def NtD.sigs (N:NtD):Int:=N.first+N.tabs.length
def sigOk (n l:Int):Bool:=decide (0≤l∧l<n)
def NtD.small (N:NtD):Prop:=0≤N.ins∧N.ins≤60000∧N.outs.length≤60000∧N.next.length=N.init.length
instance (N:NtD):Decidable N.small:=by unfold NtD.small;infer_instance
def pw (n:Nat):Int:=(2:Int) ^ (2 ^ n)
def TbD.ok (F:Int) (d:TbD):Bool:=decide (d.ins.length≤4) && d.ins.all (sigOk F) && decide (0≤d.bits∧d.bits<pw d.ins.length)
def tabOk (N:NtD) (i:Nat):Bool:=match N.tabs[i]? with | some d=>d.ok (N.first+i) | none=>true
theorem tabOk_of {N:NtD} {k:Nat} {d:TbD} (h:N.tabs[k]?=some d):tabOk N k=d.ok (N.first+k):=by unfold tabOk;rw [h]
def NtOk (N:NtD):Bool:=decide N.small && (List.range N.tabs.length).all (tabOk N) && N.next.all (sigOk N.sigs) && N.outs.all (sigOk N.sigs)
theorem shifts (n:Nat) (h:n≤4):wrap64 (2 ^ min (IntKind.u64.wrap (2 ^ n)).toNat 64)=pw n:=by
 rcases (show n=0∨n=1∨n=2∨n=3∨n=4 by omega) with rfl | rfl | rfl | rfl | rfl <;> kernel_rfl
set_option maxHeartbeats 4000000 in
theorem signals_doc (w:World) (S:NtS) (N:NtD) (h0:0≤N.ins) (h1:N.ins≤60000) (h2:N.init.length<huge) (h3:N.tabs.length<big) :
  Calls Try.prog 22 #[.agg (S.cells N)] w fun e w'=>e = .returned (.int .i64 N.sigs)∧Below w.heap.size w w':=by
 unfold NtS.cells
 simp only [big,huge] at h2 h3
 go_enter Try.func22,Try.ntmps22
 go_wp2
 go_ret
 refine ⟨ret_int ?_,(Below.refl _ _).alloc (Nat.le_refl _) _⟩
 simp only [NtD.sigs,NtD.first]
end Go.Proofs.Ytlaljeobdddegaa.L
