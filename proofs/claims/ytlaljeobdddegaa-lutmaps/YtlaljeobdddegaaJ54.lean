import Derived.Test.YtlaljeobdddegaaJ52
import Derived.Test.YtlaljeobdddegaaJ53
import Derived.Test.YtlaljeobdddegaaJ22
import Derived.Test.YtlaljeobdddegaaJ23
import Derived.Test.YtlaljeobdddegaaJ26
import Derived.Test.YtlaljeobdddegaaJ25
namespace Go.Proofs.Ytlaljeobdddegaa
open Go.RowKit Mp
def toL (t:TR):L.TR:=⟨t.a,t.c,t.l⟩
def ofL (r:L.RD):RD:=⟨r.v,r.l⟩
theorem trL {B:Nat} {w:World} {a:Option Addr} {trs:List TR} (h:TrAt B w a trs):L.TrAt B w a (trs.map toL):=by
 refine ⟨?_,fun t ht=>?_,by rw [List.length_map];exact h.len⟩
 ·have e:(trs.map toL).map L.TR.cells=trs.map TR.cells:=by rw [List.map_map];rfl
  rw [e];exact h.row
 ·obtain ⟨u,hu,rfl⟩:=List.mem_map.1 ht
  exact h.each u hu
theorem rowsAt_of {w:World} {C n:Nat} {v:Value} {rows:List RD} (h:w.ownsRow C 30 1 v n (rows.map RD.v)) (hb:∀ r,r ∈ rows→BS w r.v r.l):∃ a c,v = .slice a n c∧n=rows.length∧RowsAt w a rows:=by
 obtain ⟨a,c,e,hl,hc⟩:=own_g h
 refine ⟨a,c,e,hl,fun i r hr=>?_⟩
 obtain ⟨b,e2,c2⟩:=hc i r hr
 exact ⟨b,0,e2,cell_lt c2,by rw [Nat.zero_add];exact c2,hb r (List.mem_of_getElem? hr)⟩
theorem RowsAt.below {w w':World} {a:Option Addr} {rows:List RD} (h:RowsAt w a rows) (hb:Bl w w'):RowsAt w' a rows:=fun i r hr=>by
 obtain ⟨b,o,e,hlt,c,hs⟩:=h i r hr
 exact ⟨b,o,e,Nat.lt_of_lt_of_le hlt hb.size,(hb.cell (p:=⟨b,o+i,none⟩) hlt).trans c,hs.to hb⟩
set_option maxRecDepth 100000 in
set_option maxHeartbeats 8000000 in
theorem mapped_any (B:Nat) (w:World) (S:GrS) (G:GrD) (h:GrAt B w S G) (hB:B≤w.heap.size) (ta:Option Addr) (tc:Nat) (trs:List TR) (ht:TrAt B w ta trs) :
  Calls Try.prog 4 #[.agg (S.cells G),.slice ta trs.length tc] w fun e w'=>e = .returned (.bool true)∧Below w.heap.size w w':=by
 obtain ⟨r,Er⟩:=exh (GrOk G)
 have VL:Hid (∀ x,Bl w x→Calls Try.prog 6 #[.agg (S.cells G)] x fun e w''=>e = .returned (.bool r)∧Below x.heap.size x w''):=fun x hx=>by
  have:=graphValid_any B x S G (h.to (hx.mono hB)) (Nat.le_trans hB hx.size)
  rw [←Er.out] at this
  exact this
 have HAT:Hid (∀ x,Bl w x→GrAt B x S G∧B≤x.heap.size):=fun x hx=>⟨h.to (hx.mono hB),Nat.le_trans hB hx.size⟩
 have HTR:Hid (∀ x,Bl w x→TrAt B x ta trs):=fun x hx=>ht.to (hx.mono hB)
 have htl:=ht.len
 have hll:=h.ll
 have hlo:=h.lo
 clear h ht
 obtain ⟨nt,Ent⟩:=exh trs.length
 rw [←Ent.out] at htl
 rw [←Ent.out]
 cases r
 ·-- not valid
  unfold GrS.cells at VL ⊢
  go_enter Try.func4,Try.ntmps4
  go_upto_region 1 with fail
  obtain ⟨gb,Egb⟩:=exh w.heap.size
  obtain ⟨w0,Ew0⟩:=exh (w.alloc (.cells #[.int .i64 G.ins,.slice S.a1 G.lats.length S.c1,.slice S.a2 G.ands.length S.c2,.slice S.a3 G.outs.length S.c3] 26))
  have HB0:Hid (Bl w w0):=by rw [Ew0.out];exact (Below.refl _ _).alloc (Nat.le_refl _) _
  have HK0:Hid (Blk w0 gb 26 #[.int .i64 G.ins,.slice S.a1 G.lats.length S.c1,.slice S.a2 G.ands.length S.c2,.slice S.a3 G.outs.length S.c3]):=by rw [Ew0.out,Egb.out];exact Blk.new _ _ _
  rw [←Egb.out,←Ew0.out]
  have p0:=HK0.out.cell (i:=0) rfl
  have p1:=HK0.out.cell (i:=1) rfl
  have p2:=HK0.out.cell (i:=2) rfl
  have p3:=HK0.out.cell (i:=3) rfl
  have V0:=hidden (VL.out w0 HB0.out)
  clear VL
  go_wp2_with fail
  go_at_call 6
  refine V0.out.mono ?_
  rintro e w1 ⟨rfl,hb1⟩
  have HB1:Hid (Bl w w1):=Bl.tr HB0.out hb1
  clear hb1 V0 p0 p1 p2 p3
  go_wp2
  go_ret
  exact ⟨rfl,HB1.out⟩
 ·obtain ⟨ni,n,hF⟩:=fine_of Er.out.symm
  have HM:Hid (∀ x,Bl w x→Calls Try.prog 7 #[.agg (S.cells G)] x fun e w'=>∃ (T:L.NtS) (N:L.NtD),e = .returned (.agg (T.cells N))∧Hid (L.NtAt w'.heap.size w' T N)∧Hid (T.a1=none→T.c1=0∧N.init=[])∧Hid (MapO G N)∧Hid (Bl x w')):=fun x hx=>map_any B x S G (HAT.out x hx).1 (HAT.out x hx).2 Er.out.symm
  have HST:Hid (∀ x,Bl w x→Calls Try.prog 10 #[.agg (S.cells G)] x fun e w'=>∃ v,e = .returned v∧w'.ownsRow x.heap.size 4 1 v G.lats.length ((initN G).map bV)∧Below x.heap.size x w'):=fun x hx=>states_any B x S G (HAT.out x hx).1 (HAT.out x hx).2
  have hfi:=hF.first
  have hfa:=hF.all
  have hin:=hF.ins
  have hle:=hF.le
  have HGRun:Hid (∀ x,Bl w x→Calls Try.prog 13 #[.agg (S.cells G),.slice ta trs.length tc] x fun e w'=>∃ v,∃ rows:List RD,e = .returned v∧w'.ownsRow x.heap.size 30 1 v trs.length (rows.map RD.v)∧rows.map RD.l=runN G (trs.map TR.l) (initN G)∧(∀ r,r ∈ rows→BS w' r.v r.l)∧Below x.heap.size x w'):=fun x hx=>graphRun_any B x S G (HAT.out x hx).1 (HAT.out x hx).2 (by
    refine ⟨?_,?_,hF.ll,hF.lo,?_⟩
    ·rw [hin];omega
    ·rw [hin];omega
    ·unfold GrD.vars GrD.first;rw [hin];omega) (fun k d hd=>by
    have:=hF.ands k d hd
    unfold firstN at this
    exact this) (fun k d hd=>by
    have:=hF.lats d (List.mem_of_getElem? hd)
    unfold firstN at hfa
    rw [hfa];exact this) (fun k l hl=>by
    have:=hF.outs l (List.mem_of_getElem? hl)
    unfold firstN at hfa
    rw [hfa];exact this) ta tc trs (HTR.out x hx)
  rw [←Ent.out] at HGRun
  have HLE:Hid (∀ x,Bl w x→G.ands.length≤150→Calls Try.prog 15 #[.agg (S.cells G)] x fun e w'=>∃ (cuts:Nat→List (List Nat)) (label:Nat→Nat),e = .returned (.int .i64 (lstV (firstN G) label (endL G):Nat))∧Hid (CutsD (grG hF) n cuts label)∧Hid (∀ v,v<firstN G→label v=0)∧Hid (Bl x w')):=fun x hx h150=>least_any B x S G ni n hF (HAT.out x hx).1 (HAT.out x hx).2 h150
  have HMF:Hid (∀ N,MapO G N→L.NtOk N=true∧N.ins=G.ins∧N.outs.length=G.outs.length∧N.init=initN G∧N.tabs.length≤300000∧(∀ tr,L.runT N tr N.init=runN G tr (initN G))∧∀ cuts label,CutsD (grG hF) n cuts label→(∀ v,v<firstN G→label v=0)→L.depN N≤(lstV (firstN G) label (endL G):Int)):=fun N hN=>map_facts hF hN
  have HIL:Hid ((initN G).length=G.lats.length):=by show _=_;unfold initN;rw [List.length_map]
  have HLL:Hid (G.lats.length≤6000):=hF.ll
  have HOL:Hid (G.outs.length≤60000):=hF.lo
  unfold GrS.cells at VL HM HST HGRun HLE ⊢
  clear hfi hfa hin hle
  go_enter Try.func4,Try.ntmps4
  go_upto_region 1 with fail
  obtain ⟨gb,Egb⟩:=exh w.heap.size
  obtain ⟨w0,Ew0⟩:=exh (w.alloc (.cells #[.int .i64 G.ins,.slice S.a1 G.lats.length S.c1,.slice S.a2 G.ands.length S.c2,.slice S.a3 G.outs.length S.c3] 26))
  have HB0:Hid (Bl w w0):=by rw [Ew0.out];exact (Below.refl _ _).alloc (Nat.le_refl _) _
  have HK0:Hid (Blk w0 gb 26 #[.int .i64 G.ins,.slice S.a1 G.lats.length S.c1,.slice S.a2 G.ands.length S.c2,.slice S.a3 G.outs.length S.c3]):=by rw [Ew0.out,Egb.out];exact Blk.new _ _ _
  rw [←Egb.out,←Ew0.out]
  clear Ew0
  have p0:=HK0.out.cell (i:=0) rfl
  have p1:=HK0.out.cell (i:=1) rfl
  have p2:=HK0.out.cell (i:=2) rfl
  have p3:=HK0.out.cell (i:=3) rfl
  have V0:=hidden (VL.out w0 HB0.out)
  clear VL
  go_wp2_with fail
  go_at_call 6
  refine V0.out.mono ?_
  rintro e w1 ⟨rfl,hb1⟩
  have HB1:Hid (Bl w w1):=Bl.tr HB0.out hb1
  have HK1:=hidden (HK0.out.below hb1)
  clear hb1 V0 p0 p1 p2 p3 HK0 HB0
  have p0:=HK1.out.cell (i:=0) rfl
  have p1:=HK1.out.cell (i:=1) rfl
  have p2:=HK1.out.cell (i:=2) rfl
  have p3:=HK1.out.cell (i:=3) rfl
  have M1:=hidden (HM.out w1 HB1.out)
  go_wp2_with fail
  go_at_call 7
  refine M1.out.mono ?_
  rintro e w2 ⟨T,N,rfl,HNT,HNN,HMO,HB12⟩
  obtain ⟨fok,fins,fouts,finit,ftabs,frun,fdep⟩:=HMF.out N HMO.out
  have HDEP:=hidden fdep
  have HRUN:=hidden frun
  have HINI:=hidden finit
  have HB2:Hid (Bl w w2):=Bl.tr HB1.out HB12.out
  have HK2:=hidden (HK1.out.below HB12.out)
  have HNI:=hidden (L.ntIn_of fok (by rw [finit,HIL.out];have:=HLL.out;omega) (by omega))
  have HOK:=hidden fok
  unfold L.NtS.cells
  rw [fins,fouts,show N.init.length=G.lats.length by rw [finit];exact HIL.out]
  have HNL:Hid (N.init.length=G.lats.length∧N.outs.length=G.outs.length∧N.ins=G.ins):=⟨by rw [finit];exact HIL.out,fouts,fins⟩
  obtain ⟨gi,Egi⟩:=exh G.ins
  obtain ⟨nl,Enl⟩:=exh G.lats.length
  obtain ⟨na,Ena⟩:=exh G.ands.length
  obtain ⟨no,Eno⟩:=exh G.outs.length
  obtain ⟨tn,Etn⟩:=exh N.tabs.length
  obtain ⟨xn,Exn⟩:=exh N.next.length
  rw [←Egi.out,←Enl.out,←Ena.out,←Eno.out] at HK2 HST HGRun HLE
  rw [←Egi.out,←Enl.out,←Eno.out] at HNL
  rw [←Egi.out,←Enl.out,←Ena.out] at p0 p1 p2
  rw [←Egi.out,←Enl.out,←Ena.out,←Eno.out,←Etn.out,←Exn.out]
  clear M1 HM HMF HMO HK1 HB1 HB12 fok fins fouts finit ftabs frun fdep p0 p1 p2 p3
  obtain ⟨nb,Enb⟩:=exh w2.heap.size
  obtain ⟨w3,Ew3⟩:=exh (w2.alloc (.cells #[.int .i64 gi,.slice T.a1 nl T.c1,.slice T.a2 tn T.c2,.slice T.a3 xn T.c3,.slice T.a4 no T.c4] 34))
  have HB3:Hid (Bl w2 w3):=by rw [Ew3.out];exact (Below.refl _ _).alloc (Nat.le_refl _) _
  have HKN:Hid (Blk w3 nb 34 #[.int .i64 gi,.slice T.a1 nl T.c1,.slice T.a2 tn T.c2,.slice T.a3 xn T.c3,.slice T.a4 no T.c4]):=by rw [Ew3.out,Enb.out];exact Blk.new _ _ _
  have HKG:=hidden (HK2.out.below HB3.out)
  have HUP:Hid (∀ x,Bl w3 x→Bl w x):=fun x hx=>Bl.tr HB2.out (Bl.tr HB3.out hx)
  have HUR:Hid (Bl w3 w3):=Below.refl _ _
  have HCE:Hid (∀ x,Bl w3 x→(x.cell? ⟨gb,0,none⟩=some (.int .i64 gi)∧x.cell? ⟨gb,1,none⟩=some (.slice S.a1 nl S.c1)∧x.cell? ⟨gb,2,none⟩=some (.slice S.a2 na S.c2)∧x.cell? ⟨gb,3,none⟩=some (.slice S.a3 no S.c3)∧x.cell? ⟨nb,0,none⟩=some (.int .i64 gi)∧x.cell? ⟨nb,1,none⟩=some (.slice T.a1 nl T.c1)∧x.cell? ⟨nb,2,none⟩=some (.slice T.a2 tn T.c2)∧x.cell? ⟨nb,3,none⟩=some (.slice T.a3 xn T.c3)∧x.cell? ⟨nb,4,none⟩=some (.slice T.a4 no T.c4))):=fun x hx=>by
   have a:=HKG.out.below hx
   have b:=HKN.out.below hx
   exact ⟨a.cell (i:=0) rfl,a.cell (i:=1) rfl,a.cell (i:=2) rfl,a.cell (i:=3) rfl,b.cell (i:=0) rfl,b.cell (i:=1) rfl,b.cell (i:=2) rfl,b.cell (i:=3) rfl,b.cell (i:=4) rfl⟩
  have HNX:Hid (∀ x,Bl w3 x→L.NtAt w2.heap.size x T N∧w2.heap.size≤x.heap.size):=fun x hx=>⟨HNT.out.to (Bl.tr HB3.out hx),(Bl.tr HB3.out hx).size⟩
  have eC:T.cells N = #[.int .i64 gi,.slice T.a1 nl T.c1,.slice T.a2 tn T.c2,.slice T.a3 xn T.c3,.slice T.a4 no T.c4]:=by
   unfold L.NtS.cells
   rw [HNL.out.1,HNL.out.2.1,HNL.out.2.2,←Etn.out,←Exn.out]
  have HTV:Hid (∀ x,Bl w3 x→Calls Try.prog 8 #[.agg #[.int .i64 gi,.slice T.a1 nl T.c1,.slice T.a2 tn T.c2,.slice T.a3 xn T.c3,.slice T.a4 no T.c4]] x fun e w'=>e = .returned (.bool true)∧Bl x w'):=fun x hx=>by
   have:=L.tablesValid_any w2.heap.size x T N (HNX.out x hx).1 (HNX.out x hx).2
   rw [HOK.out,eC] at this
   exact this
  have HTD:Hid (∀ x,Bl w3 x→Calls Try.prog 14 #[.agg #[.int .i64 gi,.slice T.a1 nl T.c1,.slice T.a2 tn T.c2,.slice T.a3 xn T.c3,.slice T.a4 no T.c4]] x fun e w'=>e = .returned (.int .i64 (L.depN N))∧Bl x w'):=fun x hx=>by
   have:=L.depth_doc w2.heap.size x T N (HNX.out x hx).1 (HNX.out x hx).2 HNI.out
   rw [eC] at this
   exact this
  have HTT:Hid (∀ x,Bl w3 x→Calls Try.prog 12 #[.agg #[.int .i64 gi,.slice T.a1 nl T.c1,.slice T.a2 tn T.c2,.slice T.a3 xn T.c3,.slice T.a4 no T.c4],.slice ta nt tc] x fun e w'=>∃ v,∃ rows:List RD,e = .returned v∧w'.ownsRow x.heap.size 30 1 v nt (rows.map RD.v)∧rows.map RD.l=runN G (trs.map TR.l) (initN G)∧(∀ r,r ∈ rows→BS w' r.v r.l)∧Bl x w'):=fun x hx=>by
   have:=L.tablesRun_doc w2.heap.size x T N (HNX.out x hx).1 (HNX.out x hx).2 HNI.out HNN.out ta tc (trs.map toL) (trL ((HTR.out x (HUP.out x hx)).mono (Nat.le_trans hB HB2.out.size)))
   rw [eC,List.length_map,←Ent.out] at this
   refine this.mono ?_
   rintro e w' ⟨v,rows,rfl,ho,hr,hb,hbl⟩
   refine ⟨v,rows.map ofL,rfl,?_,?_,fun r hr'=>?_,hbl⟩
   ·rw [List.map_map];exact ho
   ·rw [List.map_map]
    have e2:(trs.map toL).map L.TR.l=trs.map TR.l:=by rw [List.map_map];rfl
    rw [e2,HRUN.out] at hr
    exact hr
   ·obtain ⟨s,hs,rfl⟩:=List.mem_map.1 hr'
    exact hb s hs
  have HR1:Hid (∀ x,Bl w3 x→RowAt x.heap.size x T.a1 1 ((initN G).map bC)):=fun x hx=>by
   have:=(HNX.out x hx).1.i
   rw [HINI.out] at this
   exact this.mono (HNX.out x hx).2
  have HIG:Hid (nl=(initN G).length∧nl≤6000):=⟨by rw [Enl.out];exact HIL.out.symm,by rw [Enl.out];exact HLL.out⟩
  have HNO:Hid (no≤60000):=by rw [Eno.out];exact HOL.out
  clear eC HKN HKG HK2 HNX HNT
  go_upto_region 5 with fail
  rw [←Enb.out,←Ew3.out]
  clear Ew3
  obtain ⟨c0,c1,c2,c3,n0,n1,n2,n3,n4⟩:=HCE.out w3 HUR.out
  have TV:=hidden (HTV.out w3 HUR.out)
  go_wp2_with fail
  go_at_call 8
  refine TV.out.mono ?_
  rintro e w4 ⟨rfl,hb4⟩
  have HB4:=hidden hb4
  clear hb4 TV HTV c0 c1 c2 c3 n0 n1 n2 n3 n4
  obtain ⟨c0,c1,c2,c3,n0,n1,n2,n3,n4⟩:=HCE.out w4 HB4.out
  have HB4d:Hid (Bl w3 w4.drew):=Below.drew HB4.out
  have ST:=hidden (HST.out w4.drew (HUP.out _ HB4d.out))
  go_wp2_with fail
  refine wp_region_noPanic ?_
  refine wp_region_held_drew (S:=fun wz=>wz.cell? ⟨gb,0,none⟩=some (.int .i64 gi)∧wz.cell? ⟨gb,1,none⟩=some (.slice S.a1 nl S.c1)∧wz.cell? ⟨gb,2,none⟩=some (.slice S.a2 na S.c2)∧wz.cell? ⟨gb,3,none⟩=some (.slice S.a3 no S.c3)∧wz.cell? ⟨nb,1,none⟩=some (.slice T.a1 nl T.c1)) (by kernel_rfl) (by exact ⟨c0,c1,c2,c3,n1⟩) (fun hHeld=>?_)
  refine tk 0 ?_
  refine tk 1 ?_
  refine tk 2 ?_
  refine rd 3 fun K hK=>?_
  (try simp only [gA,gB,gC]);go_simp
  go_at_call 10
  refine ST.out.mono ?_
  rintro e w5 ⟨v5,rfl,ho5,hb5⟩
  have HB5:Hid (Bl w3 w5):=Bl.tr HB4d.out hb5
  obtain ⟨-,a5,c5,rfl,hr5⟩:=ownRow ho5
  have SB:Hid (Calls Try.prog 9 #[.slice T.a1 nl T.c1,.slice a5 nl c5] w5 fun e w'=>e = .returned (.bool true)∧∃ q,w'=w5.drewN q):=by
   have:=sameBools_any w5 T.a1 a5 T.c1 c5 (initN G) (by rw [←HIG.out.1];have:=HIG.out.2;unfold big;omega) (HR1.out w5 HB5.out) hr5
   rw [←HIG.out.1] at this
   exact this
  clear ho5 hb5 hr5 ST HST c0 c1 c2 c3 n0 n1 n2 n3 n4
  obtain ⟨c0,c1,c2,c3,n0,n1,n2,n3,n4⟩:=HCE.out w5 HB5.out
  go_wp2_with fail
  refine wo hK ⟨c0,c1,c2,c3,n1⟩ fun _=>?_
  clear hK K
  refine rd 4 fun K hK=>?_
  (try simp only [gA,gB,gC]);go_simp
  go_at_call 9
  refine SB.out.mono ?_
  rintro e w6 ⟨rfl,q6,hw6⟩
  have HB6:Hid (Bl w3 w6):=by rw [hw6];exact Below.drewN HB5.out q6
  clear hw6 SB c0 c1 c2 c3 n0 n1 n2 n3 n4
  obtain ⟨c0,c1,c2,c3,n0,n1,n2,n3,n4⟩:=HCE.out w6 HB6.out
  go_wp2_with fail
  refine wo hK ⟨c0,c1,c2,c3,n1⟩ fun _=>?_
  clear hK K
  refine tk 5 ?_
  refine wpAnyH_done (by kernel_rfl) ?_ _
  refine NoPanic.normal ?_
  clear hHeld
  have HB6d:Hid (Bl w3 w6.drew):=Below.drew HB6.out
  have TT:=hidden (HTT.out w6.drew HB6d.out)
  go_wp2_with fail
  refine wp_region_noPanic ?_
  refine wp_region_held_drew (S:=fun wz=>wz.cell? ⟨gb,0,none⟩=some (.int .i64 gi)∧wz.cell? ⟨gb,1,none⟩=some (.slice S.a1 nl S.c1)∧wz.cell? ⟨gb,2,none⟩=some (.slice S.a2 na S.c2)∧wz.cell? ⟨gb,3,none⟩=some (.slice S.a3 no S.c3)∧wz.cell? ⟨nb,0,none⟩=some (.int .i64 gi)∧wz.cell? ⟨nb,1,none⟩=some (.slice T.a1 nl T.c1)∧wz.cell? ⟨nb,2,none⟩=some (.slice T.a2 tn T.c2)∧wz.cell? ⟨nb,3,none⟩=some (.slice T.a3 xn T.c3)∧wz.cell? ⟨nb,4,none⟩=some (.slice T.a4 no T.c4)) (by kernel_rfl) (by exact ⟨c0,c1,c2,c3,n0,n1,n2,n3,n4⟩) (fun hHeld=>?_)
  refine tk 0 ?_
  refine tk 1 ?_
  refine tk 3 ?_
  refine tk 4 ?_
  refine rd 2 fun K hK=>?_
  (try simp only [gA,gB,gC]);go_simp
  go_at_call 12
  refine TT.out.mono ?_
  rintro e w7 ⟨v7,ra,rfl,ho7,hr7,hbs7,hb7⟩
  have HB7:Hid (Bl w3 w7):=Bl.tr HB6d.out hb7
  obtain ⟨a7,c7,rfl,hl7,hra⟩:=rowsAt_of ho7 hbs7
  have HRA:=hidden hra
  have HR7:=hidden hr7
  have HL7:=hidden hl7
  have GR:=hidden (HGRun.out w7 (HUP.out _ HB7.out))
  clear ho7 hbs7 hb7 hra hr7 hl7 TT HTT c0 c1 c2 c3 n0 n1 n2 n3 n4
  go_wp2_with fail
  refine wo hK (HCE.out w7 HB7.out) fun _=>?_
  clear hK K
  refine rd 5 fun K hK=>?_
  (try simp only [gA,gB,gC]);go_simp
  go_at_call 13
  refine GR.out.mono ?_
  rintro e w8 ⟨v8,rb,rfl,ho8,hr8,hbs8,hb8⟩
  have HB8:Hid (Bl w3 w8):=Bl.tr HB7.out hb8
  obtain ⟨a8,c8,rfl,hl8,hrb⟩:=rowsAt_of ho8 hbs8
  have SR:Hid (Calls Try.prog 11 #[.slice a7 nt c7,.slice a8 nt c8] w8 fun e w'=>e = .returned (.bool true)∧∃ q,w'=w8.drewN q):=by
   refine sameRows_any w8 a7 a8 c7 c8 ra rb nt HL7.out.symm hl8.symm (by unfold big;omega) (HRA.out.below hb8) hrb (by show ra.map RD.l=rb.map RD.l;rw [HR7.out,hr8]) (fun x hx=>?_)
   have h1:x.l ∈ ra.map RD.l:=List.mem_map_of_mem hx
   rw [HR7.out] at h1
   have key:∀ (tr:List (List Bool)) (st:List Bool) (y:List Bool),y ∈ runN G tr st→y.length=G.outs.length:=by
    intro tr
    induction tr with
    | nil=>intro st y hy;simp [runN] at hy
    | cons a t ih =>
     intro st y hy
     rcases List.mem_cons.1 hy with rfl | hy
     ·unfold outN;rw [List.length_map]
     ·exact ih _ y hy
   rw [key _ _ _ h1,←Eno.out]
   have:=HNO.out
   unfold big;omega
  clear ho8 hr8 hbs8 hb8 hrb hl8 GR HGRun HRA HR7 HL7
  go_wp2_with fail
  refine wo hK (HCE.out w8 HB8.out) fun _=>?_
  clear hK K
  refine rd 6 fun K hK=>?_
  (try simp only [gA,gB,gC]);go_simp
  go_at_call 11
  refine SR.out.mono ?_
  rintro e w9 ⟨rfl,q9,hw9⟩
  have HB9:Hid (Bl w3 w9):=by rw [hw9];exact Below.drewN HB8.out q9
  clear hw9 SR
  go_wp2_with fail
  refine wo hK (HCE.out w9 HB9.out) fun _=>?_
  clear hK K
  refine tk 7 ?_
  refine wpAnyH_done (by kernel_rfl) ?_ _
  refine NoPanic.normal ?_
  clear hHeld
  obtain ⟨c0,c1,c2,c3,n0,n1,n2,n3,n4⟩:=HCE.out w9 HB9.out
  have HB9d:Hid (Bl w3 w9.drew):=Below.drew HB9.out
  by_cases h150:150<na
  ·have h150I:(150:Int)<(na:Int):=by omega
   have HFin:=hidden (HUP.out _ HB9d.out)
   go_wp2_with fail
   refine wp_region_noPanic ?_
   refine wp_region_held_drew (S:=fun wz=>wz.cell? ⟨gb,2,none⟩=some (.slice S.a2 na S.c2)) (by kernel_rfl) (by exact c2) (fun hHeld=>?_)
   refine tk 0 ?_
   refine tk 1 ?_
   refine tk 2 ?_
   refine tk 3 ?_
   refine tk 4 ?_
   refine tk 5 ?_
   refine tk 6 ?_
   refine tu 7 ?_
   refine tu 8 ?_
   refine tu 9 ?_
   refine tu 10 ?_
   refine tu 11 ?_
   refine tk 12 ?_
   refine tk 13 ?_
   refine tk 14 ?_
   refine wpAnyH_done (by kernel_rfl) ?_ _
   refine NoPanic.normal ?_
   go_wp2
   go_ret
   exact ⟨rfl,HFin.out⟩
  ·have h150J:na≤150:=by omega
   have h150I:(na:Int)≤150:=by omega
   have h150D:decide (150<na)=false:=decide_eq_false h150
   have h150E:decide ((150:Int)<(na:Int))=false:=decide_eq_false (by omega)
   have TD:=hidden (HTD.out w9.drew HB9d.out)
   go_wp2_with fail
   refine wp_region_noPanic ?_
   refine wp_region_held_drew (S:=fun wz=>wz.cell? ⟨gb,0,none⟩=some (.int .i64 gi)∧wz.cell? ⟨gb,1,none⟩=some (.slice S.a1 nl S.c1)∧wz.cell? ⟨gb,2,none⟩=some (.slice S.a2 na S.c2)∧wz.cell? ⟨gb,3,none⟩=some (.slice S.a3 no S.c3)∧wz.cell? ⟨nb,0,none⟩=some (.int .i64 gi)∧wz.cell? ⟨nb,1,none⟩=some (.slice T.a1 nl T.c1)∧wz.cell? ⟨nb,2,none⟩=some (.slice T.a2 tn T.c2)∧wz.cell? ⟨nb,3,none⟩=some (.slice T.a3 xn T.c3)∧wz.cell? ⟨nb,4,none⟩=some (.slice T.a4 no T.c4)) (by kernel_rfl) (by exact ⟨c0,c1,c2,c3,n0,n1,n2,n3,n4⟩) (fun hHeld=>?_)
   refine tk 0 ?_
   refine tk 1 ?_
   refine tk 2 ?_
   refine tk 3 ?_
   refine tk 4 ?_
   refine tk 5 ?_
   refine tk 6 ?_
   refine tk 7 ?_
   refine tk 9 ?_
   refine rd 8 fun K hK=>?_
   (try simp only [gA,gB,gC]);go_simp
   go_at_call 14
   refine TD.out.mono ?_
   rintro e w10 ⟨rfl,hb10⟩
   have HB10:Hid (Bl w3 w10):=Bl.tr HB9d.out hb10
   have LE:=hidden (HLE.out w10 (HUP.out _ HB10.out) (by omega))
   obtain ⟨dN,EdN⟩:=exh (L.depN N)
   rw [←EdN.out]
   clear hb10 TD HTD c0 c1 c2 c3 n0 n1 n2 n3 n4
   go_wp2_with fail
   refine wo hK (HCE.out w10 HB10.out) fun _=>?_
   clear hK K
   refine rd 10 fun K hK=>?_
   (try simp only [gA,gB,gC]);go_simp
   go_at_call 15
   refine LE.out.mono ?_
   rintro e w11 ⟨cuts,label,rfl,HCD,HLZ,HB11⟩
   have hdl:=HDEP.out cuts label HCD.out HLZ.out
   rw [←EdN.out] at hdl
   obtain ⟨lL,ElL⟩:=exh (lstV (firstN G) label (endL G))
   rw [←ElL.out] at hdl
   rw [←ElL.out]
   have HB11w:Hid (Bl w3 w11):=Bl.tr HB10.out HB11.out
   have HFin:=hidden (HUP.out _ HB11w.out)
   clear LE HLE HB11
   go_wp2_with fail
   refine wo hK (HCE.out w11 HB11w.out) fun _=>?_
   clear hK K
   refine tk 11 ?_
   refine tk 12 ?_
   refine tk 13 ?_
   refine tk 14 ?_
   refine wpAnyH_done (by kernel_rfl) ?_ _
   refine NoPanic.normal ?_
   go_wp2
   go_ret
   exact ⟨rfl,HFin.out⟩
end Go.Proofs.Ytlaljeobdddegaa
