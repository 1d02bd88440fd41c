import Derived.Test.YtlaljeobdddegaaJ06
import Derived.Test.YtlaljeobdddegaaJ11
import Derived.Test.YtlaljeobdddegaaJ05
import Derived.Deep.CutBlock
namespace Go.Proofs.Ytlaljeobdddegaa
open Go.RowKit
theorem hash_ok {G:GrD} {ni n:Nat} (hF:FineG G ni n):HashOk (firstN G) G.ands (hashK (firstN G) G.ands) :=
 hash_all (by have:=hF.first;omega) G.ands hF.ands
theorem hash_few {G:GrD} {ni n:Nat} (hF:FineG G ni n):(hashG G).ands.length≤G.ands.length:=(hash_ok hF).few
theorem hash_first (G:GrD):(hashG G).first=G.first:=by unfold GrD.first hashG;simp
theorem hash_valid {G:GrD} {ni n:Nat} (hF:FineG G ni n):GrOk (hashG G)=true:=by
 have hA:=hash_ok hF
 have f1:=hF.first
 have f2:=hF.all
 have f3:=hF.le
 have f4:=hF.ll
 have f5:=hF.lo
 have hfi:G.first=(firstN G:Int):=by unfold GrD.first;rw [hF.ins];omega
 have hva:(hashG G).vars=((firstN G+(hashG G).ands.length:Nat):Int):=by unfold GrD.vars;rw [hash_first,hfi];omega
 have hfw:=hash_few hF
 have hre:∀ l:Int,0≤l→l<2*(n:Int)→0≤renL (hashK (firstN G) G.ands).2 l∧renL (hashK (firstN G) G.ands).2 l<2*((firstN G+(hashG G).ands.length:Nat):Int):=fun l h0 h1=>by
  have:=(renL_ok hA h0 (by omega)).1
  refine ⟨this.1,?_⟩
  have e:(hashG G).ands.length=(hashK (firstN G) G.ands).1.length:=rfl
  omega
 unfold GrOk
 simp only [Bool.and_eq_true,decide_eq_true_eq]
 refine ⟨⟨⟨⟨?_,?_,?_,?_,?_⟩,?_⟩,?_⟩,?_⟩
 ·show 0≤G.ins;rw [hF.ins];omega
 ·show G.ins≤60000;rw [hF.ins];omega
 ·show (G.lats.map _).length≤6000;rw [List.length_map];exact f4
 ·show (G.outs.map _).length≤60000;rw [List.length_map];exact f5
 ·rw [hva];omega
 ·refine List.all_eq_true.2 fun i hi=>?_
  have hi:=List.mem_range.1 hi
  obtain ⟨d,hd⟩:=getElem_lt hi
  rw [andOk_of hd,hash_first,hfi]
  have:=hA.hs.low i d hd
  simp only [litOk,Bool.and_eq_true,decide_eq_true_eq]
  omega
 ·refine List.all_eq_true.2 fun z hz=>?_
  obtain ⟨l,hl,rfl⟩:=List.mem_map.1 hz
  have:=hF.lats l hl
  unfold latOk
  rw [hva]
  simp only [litOk,decide_eq_true_eq]
  exact hre _ this.1 this.2
 ·refine List.all_eq_true.2 fun z hz=>?_
  obtain ⟨l,hl,rfl⟩:=List.mem_map.1 hz
  have:=hF.outs l hl
  rw [hva]
  simp only [litOk,decide_eq_true_eq]
  exact hre _ this.1 this.2
end Go.Proofs.Ytlaljeobdddegaa

namespace Go.Proofs.Ytlaljeobdddegaa
open Go.RowKit
def NewAt (C:Nat) (T:GrS):Prop:=(∀ b o,T.a1=some ⟨b,o,none⟩→C≤b)∧(∀ b o,T.a2=some ⟨b,o,none⟩→C≤b)∧(∀ b o,T.a3=some ⟨b,o,none⟩→C≤b)
theorem own_new {w:World} {C e sz n m c:Nat} {a:Option Addr} {xs:List Value} (h:w.ownsRow C e sz (.slice a m c) n xs) {D:Nat} (hD:D≤C):∀ b o,a=some ⟨b,o,none⟩→D≤b:=by
 intro b o e
 have:=(h.lt b (by rw [e];rfl)).1
 omega
theorem RowAt.set {w w':World} {a:Option Addr} {sz C rs:Nat} {els:List (List Value)} (h:RowAt w.heap.size w a sz els) (hn:∀ b o,a=some ⟨b,o,none⟩→C≤b) (hr:rs<C) (hg:w.grownBy w' (some rs)):RowAt w'.heap.size w' a sz els:=fun he=>by
 obtain ⟨b,o,ha,hlt,hc⟩:=h he
 have hb:=hn b o ha
 exact ⟨b,o,ha,Nat.lt_of_lt_of_le hlt hg.size,fun i cs h1 j x h2=>(hg.cell_far ⟨b,o+i*sz+j,none⟩ hlt (by simp;omega)).trans (hc i cs h1 j x h2)⟩
theorem GrAt.set {w w':World} {T:GrS} {G:GrD} {C rs:Nat} (h:GrAt w.heap.size w T G) (hn:NewAt C T) (hr:rs<C) (hg:w.grownBy w' (some rs)):GrAt w'.heap.size w' T G :=
 ⟨h.l.set hn.1 hr hg,h.a.set hn.2.1 hr hg,h.o.set hn.2.2 hr hg,h.ll,h.la,h.lo⟩
theorem set4 {w:World} {b:Nat} {o0 o1 o2 o3:Value} (h0:w.cell? ⟨b,0,none⟩=some o0) (h1:w.cell? ⟨b,1,none⟩=some o1) (h2:w.cell? ⟨b,2,none⟩=some o2) (h3:w.cell? ⟨b,3,none⟩=some o3) (x0 x1 x2 x3:Value) :
  ((((w.setCell ⟨b,0,none⟩ x0).setCell ⟨b,1,none⟩ x1).setCell ⟨b,2,none⟩ x2).setCell ⟨b,3,none⟩ x3).cell? ⟨b,0,none⟩=some x0∧((((w.setCell ⟨b,0,none⟩ x0).setCell ⟨b,1,none⟩ x1).setCell ⟨b,2,none⟩ x2).setCell ⟨b,3,none⟩ x3).cell? ⟨b,1,none⟩=some x1∧((((w.setCell ⟨b,0,none⟩ x0).setCell ⟨b,1,none⟩ x1).setCell ⟨b,2,none⟩ x2).setCell ⟨b,3,none⟩ x3).cell? ⟨b,2,none⟩=some x2∧((((w.setCell ⟨b,0,none⟩ x0).setCell ⟨b,1,none⟩ x1).setCell ⟨b,2,none⟩ x2).setCell ⟨b,3,none⟩ x3).cell? ⟨b,3,none⟩=some x3:=by
 have n:∀ i j:Nat,i≠j→(⟨b,i,none⟩:Addr)≠⟨b,j,none⟩:=fun i j h e=>h (by injection e)
 have o:∀ (w:World) (i j:Nat) (x:Value),i≠j→(w.setCell ⟨b,i,none⟩ x).cell? ⟨b,j,none⟩=w.cell? ⟨b,j,none⟩:=fun w i j x h=>by apply World.cell?_setCell_other;exact n i j h
 refine ⟨?_,?_,?_,?_⟩
 ·rw [o _ 3 0 _ (by decide),o _ 2 0 _ (by decide),o _ 1 0 _ (by decide)];apply World.cell?_setCell_same;exact h0
 ·rw [o _ 3 1 _ (by decide),o _ 2 1 _ (by decide)];apply World.cell?_setCell_same;exact ((o _ 0 1 _ (by decide)).trans h1)
 ·rw [o _ 3 2 _ (by decide)];apply World.cell?_setCell_same;exact ((o _ 1 2 _ (by decide)).trans ((o _ 0 2 _ (by decide)).trans h2))
 ·apply World.cell?_setCell_same;exact ((o _ 2 3 _ (by decide)).trans ((o _ 1 3 _ (by decide)).trans ((o _ 0 3 _ (by decide)).trans h3)))
theorem own_not {w:World} {C e sz n:Nat} {v:Value} {xs:List Value} (h:w.ownsRow C e sz v n xs) {x:Nat} (hx:x<C):v.ownBlock=none∨v.ownBlock≠some x:=by
 refine .inr fun e=>?_
 have:=(h.lt x e).1
 omega
theorem set4H (w:World) (b:Nat) (x0 x1 x2 x3:Value):w.grownBy ((((w.setCell ⟨b,0,none⟩ x0).setCell ⟨b,1,none⟩ x1).setCell ⟨b,2,none⟩ x2).setCell ⟨b,3,none⟩ x3) (some b) :=
 grown_trans (grown_trans (grown_trans (setH _ _ _ _) (setH _ _ _ _)) (setH _ _ _ _)) (setH _ _ _ _)
theorem made_zeroes (n:Nat):(madeCells (Value.int .i64 0).cells (n*1)).toList=(List.replicate n (0:Int)).map zH:=by
 rw [Nat.mul_one]
 apply List.ext_getElem?
 intro i
 by_cases h:i<n
 ·simp [madeCells,Value.cells,zH,h,Nat.mod_one]
 ·simp [madeCells,Value.cells,zH,h]
end Go.Proofs.Ytlaljeobdddegaa

namespace Go.Proofs.Ytlaljeobdddegaa
open Go.RowKit
set_option maxRecDepth 100000 in
set_option maxHeartbeats 16000000 in
theorem hashed_any (B:Nat) (w:World) (ib0:Nat) (S:GrS) (G:GrD) (ni n:Nat) (hF:FineG G ni n) (hbx:BoxAt w ib0 S G) (hat:GrAt B w S G) (hB:B≤w.heap.size) :
  Calls Try.prog 33 #[.pointer (some ⟨ib0,0,none⟩)] w fun e w'=>(∃ T,e = .returned (.agg (T.cells (hashG G)))∧GrAt w'.heap.size w' T (hashG G)∧NewAt w.heap.size T)∧Below w.heap.size w w':=by
 have FG0:Hid (∀ w',Below w.heap.size w w'→Calls Try.prog 30 #[.pointer (some ⟨ib0,0,none⟩)] w' fun e w''=>e = .returned (.int .i64 (firstN G:Nat))∧∃ k,w''=w'.drewN k):=fun w' hw'=>by
  have:=firstGate_any w' ib0 S G (hbx.to hbx.lt hw') (by rw [hF.ins];omega) (by have:=hF.first;have:=hF.le;have:=hF.all;rw [hF.ins];omega) hat.ll
  rw [show G.first=((firstN G:Nat):Int) by unfold GrD.first;rw [hF.ins];have:=hF.first;omega] at this
  exact this
 have VA:Hid (∀ w',Below w.heap.size w w'→Calls Try.prog 29 #[.pointer (some ⟨ib0,0,none⟩)] w' fun e w''=>e = .returned (.int .i64 (n:Int))∧∃ k,w''=w'.drewN k):=fun w' hw'=>by
  have:=variables_any w' ib0 S G (hbx.to hbx.lt hw') (by rw [hF.ins];omega) (by have:=hF.first;have:=hF.le;have:=hF.all;rw [hF.ins];omega) hat.ll hat.la
  rw [show G.vars=(n:Int) by unfold GrD.vars GrD.first;rw [hF.ins];have:=hF.first;have:=hF.all;omega] at this
  exact this
 have hf1:=hF.first
 have hf2:=hF.all
 have hf3:=hF.le
 have HHO:=hidden (hash_ok hF)
 obtain ⟨first,hfd⟩:∃ f,f=firstN G:=⟨_,rfl⟩
 have HFD:=hidden hfd
 rw [←hfd] at hf1 hf2 FG0 HHO
 have HIN:=hidden hF.ins
 have HFI:=hidden hF
 have HBX:=hidden hbx
 have HAT:=hidden hat
 have hib:=hbx.lt
 have hfl:1≤first:=by omega
 clear hF hfd hbx hat hf1
 obtain ⟨ii,hii,hzi,hsi,hbi⟩:=info_int
 have HI:=hidden hii
 have HZ:=hidden hzi
 have HS:=hidden hsi
 have HBY:=hidden hbi
 clear hii hzi hsi hbi
 have hmkb:ii.bytes*n≤281474976710656:=by rw [HBY.out];omega
 have hmx:n≤maxLen:=by simp only [maxLen];omega
 have hmf:∀ (fn:Fn) (first cap:Array Value) (w:World),(Instr.makeFunc fn first cap).run Try.prog w = .ok (.func fn first cap) w:=fun _ _ _ _=>rfl
 go_enter Try.func33,Try.ntmps33
 go_upto_region 1 with fail
 generalize hW0:World.alloc w _=w0
 obtain ⟨rs,hrs⟩:∃ x,x=w.heap.size:=⟨_,rfl⟩
 have HB0:Hid (Below w.heap.size w w0):=by rw [←hW0];exact (Below.refl _ _).alloc (Nat.le_refl _) _
 have hsz0:w.heap.size+1≤w0.heap.size:=by rw [←hW0];simp
 have HQR0:Hid (∀ j,w0.cell? ⟨rs,j,none⟩=(#[.int .i64 0,.slice none 0 0,.slice none 0 0,.slice none 0 0]:Array Value)[j]?):=by
  rw [←hW0,hrs];intro j;exact cell_new rfl
 have HRF0:Hid (∀ j,w0.frozen? ⟨rs,j,none⟩=false):=by
  rw [←hW0,hrs];intro j;exact World.frozen?_alloc_at _ _ _ _ rfl
 rw [←hrs]
 have hrw:w.heap.size≤rs:=by omega
 have hrw':rs≤w.heap.size:=by omega
 clear hW0 hrs
 go_wp2_with fail
 go_at_call 30
 refine (FG0.out _ HB0.out).mono ?_
 rintro e w1 ⟨rfl,dk,hw1⟩
 have HB1:Hid (Below w0.heap.size w0 w1):=by rw [hw1];exact Below.drewN (Below.refl _ _) _
 have hs1:w0.heap.size≤w1.heap.size:=HB1.out.size
 clear hw1
 go_wp2_with fail
 go_at_call 49
 refine (newGates_any w1 first).mono ?_
 rintro e w2 ⟨rfl,hg2,hb2,hs2⟩
 obtain ⟨mb,hmb⟩:∃ x,x=w1.heap.size:=⟨_,rfl⟩
 obtain ⟨gb,hgb⟩:∃ x,x=w1.heap.size+1:=⟨_,rfl⟩
 rw [←hgb,←hmb] at hg2
 rw [←hgb]
 have HG2:=hidden hg2
 have HB2:=hidden hb2
 have hs2':w1.heap.size+2≤w2.heap.size:=by omega
 have hmb1:w1.heap.size≤mb∧mb<w2.heap.size:=by omega
 have hgb1:w1.heap.size≤gb∧gb<w2.heap.size:=by omega
 have HB02:Hid (Below w.heap.size w w2):=(HB0.out.trans (HB1.out.mono (by omega))).trans (HB2.out.mono (by omega))
 clear hmb hgb hg2 hb2 hs2
 go_wp2_with fail
 go_at_call 29
 refine (VA.out _ HB02.out).mono ?_
 rintro e w3 ⟨rfl,dk,hw3⟩
 have HB3:Hid (Below w2.heap.size w2 w3):=by rw [hw3];exact Below.drewN (Below.refl _ _) _
 have hs3:w2.heap.size≤w3.heap.size:=HB3.out.size
 clear hw3
 have tok:True:=trivial
 go_upto_region 4 with (have _t:=tok;at_make;(refine wpList_make_full _ rfl (.tmp 20) (.tmp 20) 24 rfl w3.heap.size 3 ii _ 1 Try.underlying24 HI.out HZ.out HS.out .i64 .i64 (n:Int) (n:Int) n rfl rfl rfl rfl hmkb hmx (Nat.le_refl _) ?_;intro w4 hown1 hgrow1;have HOM:=hidden hown1;have HGM:=hidden hgrow1;clear tok hown1 hgrow1))
 obtain ⟨lb,hlbd⟩:∃ x,x=w3.heap.size:=⟨_,rfl⟩
 have HM4:Hid (w4.ownsRow lb 3 1 (.slice (some ⟨lb,0,none⟩) n n) n ((List.replicate n (0:Int)).map zH)):=by
  have:=HOM.out
  rw [made_zeroes,←hlbd] at this
  exact this
 rw [←hlbd]
 generalize hW5:World.alloc w4 _=w5
 obtain ⟨qb,hqbd⟩:∃ x,x=w4.heap.size:=⟨_,rfl⟩
 have HB5:Hid (Below w4.heap.size w4 w5):=by rw [←hW5];exact (Below.refl _ _).alloc (Nat.le_refl _) _
 have HB35:Hid (Below w3.heap.size w3 w5):=(none_below HGM.out).trans (HB5.out.mono HGM.out.size)
 have HB25:Hid (Below w2.heap.size w2 w5):=HB3.out.trans (HB35.out.mono hs3)
 have HBw5:Hid (Below w.heap.size w w5):=HB02.out.trans (HB25.out.mono HB02.out.size)
 have hs5:w4.heap.size+1≤w5.heap.size:=by rw [←hW5];simp
 have hlb4:=(HM4.out.lt lb rfl).2
 have q5:w5.cell? ⟨qb,0,none⟩=some (.slice (some ⟨lb,0,none⟩) n n):=by rw [←hW5,hqbd];exact cell_new rfl
 rw [←hqbd]
 have hlq1:lb<qb:=by omega
 have hlb1:w2.heap.size≤lb:=by omega
 have hqb1:qb<w5.heap.size:=by omega
 have HM5:Hid (w5.ownsRow lb 3 1 (.slice (some ⟨lb,0,none⟩) n n) n ((List.replicate n (0:Int)).map zH)):=own_below HM4.out HB5.out
 have HQR5:Hid (∀ j,w5.cell? ⟨rs,j,none⟩=(#[.int .i64 0,.slice none 0 0,.slice none 0 0,.slice none 0 0]:Array Value)[j]?):=fun j=>(HB25.out.cell (p:=⟨rs,j,none⟩) (by show rs<_;omega)).trans ((HB2.out.cell (p:=⟨rs,j,none⟩) (by show rs<_;omega)).trans ((HB1.out.cell (p:=⟨rs,j,none⟩) (by show rs<_;omega)).trans (HQR0.out j)))
 have HRF5:Hid (∀ j,w5.frozen? ⟨rs,j,none⟩=false):=fun j=>(HB25.out.frozen (p:=⟨rs,j,none⟩) (by show rs<_;omega)).trans ((HB2.out.frozen (p:=⟨rs,j,none⟩) (by show rs<_;omega)).trans ((HB1.out.frozen (p:=⟨rs,j,none⟩) (by show rs<_;omega)).trans (HRF0.out j)))
 have HG5:Hid (GtAt mb w5 gb mb first [] (.slice none 0 0)):=HG2.out.to HB25.out
 have hsw5:=HBw5.out.size
 have hL0:Hid ((List.replicate n (0:Int)).length=n):=List.length_replicate
 clear hW5 hqbd hlbd HOM HGM HM4 HB5 HB35 HB25 HB3 HB2 HB1 HB0 HQR0 HRF0 HG2 HI HZ HS HBY hmkb hmx VA FG0 HB02
 go_upto_block 0 with fail
 refine hsInit w5 lb first n qb lb _ hL0 q5 hqb1 (by omega) hf3 (by omega) HM5 _ _ _ _ _ _ _ _ _ _ _ _ _ _ _ _ _ _ _ _ _ _ _ _ _ _ _ _ _ _ _ _ _ _ _ _ _ _ _ _ _ _ _ _ _ _ _ _ _ _ _ _ _ _ _ _ _ _ _ _ _ _ _ _ _ _ _ _ _ _ _ _ _ _ _ _ _ _ _ _ _ _ _ _ _ _ _ _ _ _ _ _ _ _ _ _ _ _ _ _ _ _ _ _ _ _ _ _ (hidden ?_)
 intro w6 v6 v23 v24 v25 v26 v27 v28 v29 v30 v31 hcut
 obtain ⟨L6,hl6,hv6,ho6,hg6⟩:=hcut
 have HL6:=hidden hl6
 have HV6:Hid (∀ v,v<first+0→L6[v]?=some ((hashK first (G.ands.take 0)).2.getD v 0)):=fun v hv=>by
  rw [hv6 v (by omega)]
  have:(hashK first (G.ands.take 0)).2=(List.range first).map fun v:Nat=>2*(v:Int):=rfl
  rw [this,List.getD_eq_getElem?_getD,List.getElem?_map,List.getElem?_range (by omega)]
  rfl
 have HO6:=hidden ho6
 have HG6:=hidden hg6
 have hs6:=hg6.size
 have HBw6:Hid (Below w.heap.size w w6):=HBw5.out.trans (below_grown hg6 (by omega) (fun k hk=>by have:=Option.some.inj hk;omega))
 have q6:w6.cell? ⟨qb,0,none⟩=some (.slice (some ⟨lb,0,none⟩) n n):=(hg6.cell_far ⟨qb,0,none⟩ hqb1 (by simp;omega)).trans q5
 have HT6:Hid (GtAt w6.heap.size w6 gb mb first (hashK first (G.ands.take 0)).1 (.slice none 0 0)):=by
  have f:=HG5.out.far hg6 (by omega) (by omega) (by simp [Value.ownBlock])
  exact ⟨f.c0,f.c1,f.c2,World.ownsRow_nil _ _ _ _,f.kn,f.fr,Nat.le_refl _,f.lt,f.lm,f.ne,f.ng,f.nm⟩
 have HQR6:Hid (∀ j,w6.cell? ⟨rs,j,none⟩=(#[.int .i64 0,.slice none 0 0,.slice none 0 0,.slice none 0 0]:Array Value)[j]?):=fun j=>(hg6.cell_far ⟨rs,j,none⟩ (by show rs<_;omega) (by simp;omega)).trans (HQR5.out j)
 have HRF6:Hid (∀ j,w6.frozen? ⟨rs,j,none⟩=false):=fun j=>(hg6.frozen_far ⟨rs,j,none⟩ (by show rs<_;omega) (by simp;omega)).trans (HRF5.out j)
 have t2:w6.cell? ⟨ib0,2,none⟩=some (.slice S.a2 G.ands.length S.c2):=(HBw6.out.cell (p:=⟨ib0,2,none⟩) hib).trans HBX.out.c2
 have HIN6:Hid (∀ (k:Nat) (d:AndD),G.ands[k]?=some d→(0≤d.x∧d.x<2*((first+k:Nat):Int))∧(0≤d.y∧d.y<2*((first+k:Nat):Int))):=by
  have:=HFI.out.ands
  rw [←HFD.out] at this
  exact this
 clear hl6 hv6 ho6 hg6 HG5 HQR5 HRF5 HM5 hL0 q5
 go_upto_block 2 with fail
 refine hsGates w6 G.ands lb B first n qb lb gb mb S.a2 S.c2 L6 _ HL6 HV6 HO6 HT6 q6 (by omega) (by omega) (by omega) (by omega) (by omega) (by omega) (by omega) hf3 hfl hf2 (HAT.out.to (HBw6.out.mono hB)).a (by omega) (by omega) (by omega) HIN6 _ _ _ _ _ _ _ _ _ _ _ _ _ _ _ _ _ _ _ _ _ _ _ _ _ _ _ _ _ _ _ _ _ _ _ _ _ _ _ _ _ _ _ _ _ _ _ _ _ _ _ _ _ _ _ _ _ _ _ _ _ _ _ _ _ _ _ _ _ _ _ _ _ _ _ _ _ _ _ _ _ _ _ _ _ _ _ _ _ _ _ _ _ _ _ _ _ _ _ _ _ _ _ _ (hidden ?_)
 intro w7 v8 v9 v38 v39 v40 v41 v42 v43 v44 v45 v46 v47 v48 v49 v50 v51 v52 v53 v54 v55 v56 v57 v58 hcut
 obtain ⟨L7,u7,hl7,hv7,ho7,hg7,hq7,hk7⟩:=hcut
 obtain ⟨ua,uc,hu7⟩:=row_slice hg7.ow
 subst hu7
 have HT7:=hidden hg7
 have HK7:=hidden hk7
 have HO7:=hidden ho7
 have HL7:=hidden hl7
 have HV7:=hidden hv7
 have hs7:=hk7.size
 clear hg7 hk7 ho7 hl7 hv7
 have HBw7:Hid (Below w.heap.size w w7):=HBw6.out.trans ⟨HK7.out.os,HK7.out.tape,HK7.out.output,by have:=HBw6.out.size;omega,fun k hk=>HK7.out.block k (by have:=HBw6.out.size;omega) (by omega) (by omega) (by omega)⟩
 have t0:w7.cell? ⟨ib0,0,none⟩=some (.int .i64 (ni:Int)):=(HBw7.out.cell (p:=⟨ib0,0,none⟩) hib).trans (by rw [←HIN.out];exact HBX.out.c0)
 have t1:w7.cell? ⟨gb,1,none⟩=some (.slice ua (hashK first G.ands).1.length uc):=HT7.out.c1
 have hg7l:gb<w7.heap.size:=HT7.out.lt
 have hi7l:ib0<w7.heap.size:=by have:=HBw7.out.size;omega
 have KT:Hid (∀ w',w7.grownBy w' none→w'.cell? ⟨ib0,0,none⟩=some (.int .i64 (ni:Int))∧w'.cell? ⟨gb,1,none⟩=some (.slice ua (hashK first G.ands).1.length uc)):=fun w' hg=>⟨(hg.cell_far ⟨ib0,0,none⟩ hi7l (by simp)).trans t0,(hg.cell_far ⟨gb,1,none⟩ hg7l (by simp)).trans t1⟩
 have HQ7:=hidden hq7
 clear hq7 t2
 go_upto_region 15 with fail
 refine wp_region_noPanic ?_
 refine wp_region_held_drew (S:=(fun w'=>w'.cell? ⟨ib0,0,none⟩=some (.int .i64 (ni:Int))∧w'.cell? ⟨gb,1,none⟩=some (.slice ua (hashK first G.ands).1.length uc))) (by kernel_rfl) (by (first | assumption | exact ⟨t0,t1⟩ | exact KT.out _ (adH _ _ _) | exact KT.out _ (alH _ _ _) | exact KT.out _ (drH _ _))) (fun hHeld=>?_)
 refine tk 0 ?_
 refine tk 1 ?_
 refine tk 2 ?_
 refine tk 3 ?_
 refine tk 4 ?_
 refine tk 5 ?_
 refine tk 6 ?_
 refine tk 7 ?_
 refine tk 8 ?_
 refine rd 9 fun K hK=>?_
 (try simp only [gA,gB,gC])
 go_simp
 refine hK.out _ _ (by (first | assumption | exact ⟨t0,t1⟩ | exact KT.out _ (adH _ _ _) | exact KT.out _ (alH _ _ _) | exact KT.out _ (drH _ _))) (fun hHeld9=>?_)
 clear hK K
 (try simp only [Act.put]);(try simp only [List.setIfInBounds_toArray]);(try simp only [List.set_cons_zero,List.set_cons_succ])
 refine rd 10 fun K hK=>?_
 (try simp only [gA,gB,gC])
 go_simp
 refine hK.out _ _ (by (first | assumption | exact ⟨t0,t1⟩ | exact KT.out _ (adH _ _ _) | exact KT.out _ (alH _ _ _) | exact KT.out _ (drH _ _))) (fun hHeld10=>?_)
 clear hK K
 (try simp only [Act.put]);(try simp only [List.setIfInBounds_toArray]);(try simp only [List.set_cons_zero,List.set_cons_succ])
 refine wpAnyH_done (by kernel_rfl) ?_ _
 refine NoPanic.normal ?_
 generalize hV:World.drew _=V
 obtain ⟨hb,hhbd⟩:∃ x,x=w7.heap.size:=⟨_,rfl⟩
 have HVB:Hid (∀ j,V.cell? ⟨hb,j,none⟩=(#[.int .i64 (ni:Int),.slice none 0 0,.slice ua (hashK first G.ands).1.length uc,.slice none 0 0]:Array Value)[j]?):=by
  rw [←hV,hhbd];intro j;exact cell_new rfl
 have HVF:Hid (∀ j,V.frozen? ⟨hb,j,none⟩=false):=by
  rw [←hV,hhbd];intro j;exact World.frozen?_alloc_at _ _ _ _ rfl
 have HV7':Hid (Below w7.heap.size w7 V):=by rw [←hV];exact Below.drew ((Below.refl _ _).alloc (Nat.le_refl _) _)
 have hhb:hb<V.heap.size:=by rw [←hV,hhbd];simp
 have hb3:w7.heap.size≤hb:=by omega
 rw [←hhbd]
 have hb3':hb≤w7.heap.size:=by omega
 clear hV hhbd t0 t1 KT
 have HBV:Hid (Below w.heap.size w V):=HBw7.out.trans (HV7'.out.mono HBw7.out.size)
 have hsV:=HV7'.out.size
 have hswV:=HBV.out.size
 have HQR7:Hid (∀ j,w7.cell? ⟨rs,j,none⟩=w6.cell? ⟨rs,j,none⟩):=fun j=>HK7.out.cell (by omega) (by omega) (by omega) (by omega)
 have HFR7:Hid (∀ j,w7.frozen? ⟨rs,j,none⟩=w6.frozen? ⟨rs,j,none⟩):=fun j=>World.frozen?_of_block (HK7.out.block rs (by omega) (by omega) (by omega) (by omega))
 have HQV:Hid (∀ j,V.cell? ⟨rs,j,none⟩=(#[.int .i64 0,.slice none 0 0,.slice none 0 0,.slice none 0 0]:Array Value)[j]?):=fun j=>(HV7'.out.cell (p:=⟨rs,j,none⟩) (by show rs<_;omega)).trans ((HQR7.out j).trans (HQR6.out j))
 have HRFV:Hid (∀ j,V.frozen? ⟨rs,j,none⟩=false):=fun j=>(HV7'.out.frozen (p:=⟨rs,j,none⟩) (by show rs<_;omega)).trans ((HFR7.out j).trans (HRF6.out j))
 have hl7:=(HO7.out.lt lb rfl).2
 have HTTV:Hid (∀ v,v<n→V.cell? ⟨lb,v,none⟩=some (.int .i64 ((hashK first G.ands).2.getD v 0))∧0≤(hashK first G.ands).2.getD v 0∧(hashK first G.ands).2.getD v 0≤4000000):=fun v hv=>by
  refine ⟨(HV7'.out.cell (p:=⟨lb,v,none⟩) (by show lb<_;omega)).trans ?_,?_⟩
  ·rw [HO7.out.cellAt v (by omega),List.getElem?_map,HV7.out v (by omega)];rfl
  ·have hfw:=HHO.out.few
   obtain ⟨t,ht⟩:=getElem_lt (l:=(hashK first G.ands).2) (k:=v) (by rw [HHO.out.len];omega)
   have:=HHO.out.lits v t ht
   rw [List.getD_eq_getElem?_getD,ht]
   show 0≤t∧t≤4000000
   omega
 have hq7l:qb<w7.heap.size:=by omega
 have Q3V:Hid (V.cell? ⟨qb,0,none⟩=some (.slice (some ⟨lb,0,none⟩) n n)):=(HV7'.out.cell (p:=⟨qb,0,none⟩) hq7l).trans HQ7.out
 have HATV:Hid (GrAt B V S G):=HAT.out.to (HBV.out.mono hB)
 have HGC:Hid (∀ j,V.cell? ⟨ib0,j,none⟩=w.cell? ⟨ib0,j,none⟩):=fun j=>HBV.out.cell (p:=⟨ib0,j,none⟩) hib
 have HOV:Hid (V.ownsRow w6.heap.size 46 2 (.slice ua (hashK first G.ands).1.length uc) (hashK first G.ands).1.length ((hashK first G.ands).1.flatMap AndD.cells)):=own_below HT7.out.ow HV7'.out
 have hnh:(Value.slice ua (hashK first G.ands).1.length uc).ownBlock≠some hb:=fun e=>by have:=(HT7.out.ow.lt hb e).2;omega
 have t1:V.cell? ⟨ib0,1,none⟩=some (.slice S.a1 G.lats.length S.c1):=(HGC.out 1).trans HBX.out.c1
 have hf4:=HFI.out.ll
 have hf5:=HFI.out.lo
 have hfw:=HHO.out.few
 clear HQR7 HFR7 HQR6 HRF6 HO7 HV7 HL7 HK7 HT7 HQ7 HT6 HO6 HG6 HV6 HL6 q6
 go_upto_block 4 with fail
 refine hsLats V G (hashK first G.ands).2 B n qb hb lb S.a1 S.c1 Q3V.out (by omega) (by omega) HATV.out.l (by omega) (by omega) HFI.out.lats hf3 (by omega) hhb (by omega) (by omega) HTTV (by simpa using HVB.out 1) HVF.out _ _ _ _ _ _ _ _ _ _ _ _ _ _ _ _ _ _ _ _ _ _ _ _ _ _ _ _ _ _ _ _ _ _ _ _ _ _ _ _ _ _ _ _ _ _ _ _ _ _ _ _ _ _ _ _ _ _ _ _ _ _ _ _ _ _ _ _ _ _ _ _ _ _ _ _ _ _ _ _ _ _ _ _ _ _ _ _ _ _ _ _ _ _ _ _ _ _ _ _ _ _ _ _ _ _ (hidden ?_)
 intro w8 v12 v73 v74 v75 v76 v77 v78 v79 v80 v81 v82 v83 v84 v85 v86 v87 v88 v89 hcut
 obtain ⟨⟨u1,hu1,ho1⟩,HG8,HC8,HF8⟩:=hcut
 have HU1:=hidden hu1
 have HO1:=hidden ho1
 replace HG8:=hidden HG8
 replace HC8:=hidden HC8
 replace HF8:=hidden HF8
 have hs8:=HG8.out.size
 clear hu1 ho1 t1
 have t1:w8.cell? ⟨ib0,3,none⟩=some (.slice S.a3 G.outs.length S.c3):=(HG8.out.cell_far ⟨ib0,3,none⟩ (by show ib0<_;omega) (by simp;omega)).trans ((HGC.out 3).trans HBX.out.c3)
 go_upto_block 6 with fail
 refine hsOuts w8 G (hashK first G.ands).2 B n qb hb lb S.a3 S.c3 ((HG8.out.cell_far ⟨qb,0,none⟩ (by show qb<_;omega) (by simp;omega)).trans Q3V.out) (by omega) (by omega) (HATV.out.to (below_grown HG8.out (C:=B) (by omega) (fun k hk=>by have:=Option.some.inj hk;omega))).o (by omega) (by omega) HFI.out.outs hf3 hf5 (by omega) (by omega) (by omega) (show ∀ v,v<n→_ from fun v hv=>⟨(HG8.out.cell_far ⟨lb,v,none⟩ (by show lb<_;omega) (by simp;omega)).trans (HTTV.out v hv).1,(HTTV.out v hv).2⟩) ((HC8.out 3 (by decide)).trans (by simpa using HVB.out 3)) HF8.out _ _ _ _ _ _ _ _ _ _ _ _ _ _ _ _ _ _ _ _ _ _ _ _ _ _ _ _ _ _ _ _ _ _ _ _ _ _ _ _ _ _ _ _ _ _ _ _ _ _ _ _ _ _ _ _ _ _ _ _ _ _ _ _ _ _ _ _ _ _ _ _ _ _ _ _ _ _ _ _ _ _ _ _ _ _ _ _ _ _ _ _ _ _ _ _ _ _ _ _ _ _ _ _ _ _ (hidden ?_)
 intro w9 v14 v95 v96 v97 v98 v99 v100 v101 v102 v103 v104 v105 v106 v107 hcut
 obtain ⟨⟨u3,hu3,ho3⟩,HG9,HC9,HF9⟩:=hcut
 replace HG9:=hidden HG9
 replace HC9:=hidden HC9
 have HGV:Hid (V.grownBy w9 (some hb)):=grown_trans HG8.out HG9.out
 have hs9:=HG9.out.size
 have HO1':Hid (w9.ownsRow V.heap.size 45 2 u1 G.lats.length (G.lats.flatMap (latH (hashK first G.ands).2))):=HO1.out.kept HG9.out (own_not HO1.out (by omega))
 have HO2':Hid (w9.ownsRow w6.heap.size 46 2 (.slice ua (hashK first G.ands).1.length uc) (hashK first G.ands).1.length ((hashK first G.ands).1.flatMap AndD.cells)):=(HOV.out.kept HG8.out (.inr hnh)).kept HG9.out (.inr hnh)
 have HO3:=hidden ho3
 have b0:w9.cell? ⟨hb,0,none⟩=some (.int .i64 (ni:Int)):=(HC9.out 0 (by decide)).trans ((HC8.out 0 (by decide)).trans (by simpa using HVB.out 0))
 have b1:w9.cell? ⟨hb,1,none⟩=some u1:=(HC9.out 1 (by decide)).trans HU1.out
 have b2:w9.cell? ⟨hb,2,none⟩=some (.slice ua (hashK first G.ands).1.length uc):=(HC9.out 2 (by decide)).trans ((HC8.out 2 (by decide)).trans (by simpa using HVB.out 2))
 have b3:w9.cell? ⟨hb,3,none⟩=some u3:=hu3
 have HR9:Hid (∀ j,w9.cell? ⟨rs,j,none⟩=(#[.int .i64 0,.slice none 0 0,.slice none 0 0,.slice none 0 0]:Array Value)[j]?):=fun j=>(HGV.out.cell_far ⟨rs,j,none⟩ (by show rs<_;omega) (by simp;omega)).trans (HQV.out j)
 have HFR9:Hid (∀ j,w9.frozen? ⟨rs,j,none⟩=false):=fun j=>(HGV.out.frozen_far ⟨rs,j,none⟩ (by show rs<_;omega) (by simp;omega)).trans (HRFV.out j)
 have r0:=HR9.out 0
 have r1:=HR9.out 1
 have r2:=HR9.out 2
 have r3:=HR9.out 3
 have f0:=HFR9.out 0
 have f1:=HFR9.out 1
 have f2:=HFR9.out 2
 have f3:=HFR9.out 3
 simp at r0 r1 r2 r3
 have HB9:Hid (Below w.heap.size w w9):=HBV.out.trans (below_grown HGV.out HBV.out.size (fun k hk=>by have:=Option.some.inj hk;omega))
 clear hu3 ho3 HGV HC9 HC8 HO1 HU1 HVB HQV HRFV HG9 HG8 HF9 HF8 HTTV HATV HVF HBV t1 HGC Q3V HBX HAT HOV
 obtain ⟨a1,c1,hx1⟩:=row_slice HO1'.out
 obtain ⟨a3,c3,hx3⟩:=row_slice HO3.out
 subst hx1 hx3
 go_wp2
 have hrl:rs<V.heap.size:=by omega
 have hrl6:rs<w6.heap.size:=by omega
 obtain ⟨z0,z1,z2,z3⟩:=set4 r0 r1 r2 r3 (Value.int IntKind.i64 (ni:Int)) (Value.slice a1 G.lats.length c1) (Value.slice ua (hashK first G.ands).1.length uc) (Value.slice a3 G.outs.length c3)
 clear HR9 HFR9 f0 f1 f2 f3 r0 r1 r2 r3 b0 b1 b2 b3
 have HGW:=hidden (set4H w9 rs (Value.int IntKind.i64 (ni:Int)) (Value.slice a1 G.lats.length c1) (Value.slice ua (hashK first G.ands).1.length uc) (Value.slice a3 G.outs.length c3))
 generalize World.setCell _ (⟨rs,3,none⟩:Addr) _=wz at HGW z0 z1 z2 z3 ⊢
 refine bodyPost_ret (v:=.agg #[.int .i64 (ni:Int),.slice a1 G.lats.length c1,.slice ua (hashK first G.ands).1.length uc,.slice a3 G.outs.length c3]) (by simp [results,Try.results33,go_sem, *]) rfl ?_
 have hsz:=HGW.out.size
 have hP1:=HO1'.out.kept HGW.out (own_not HO1'.out (by omega))
 have hP2:=HO2'.out.kept HGW.out (own_not HO2'.out (by omega))
 have hP3:=HO3.out.kept HGW.out (own_not HO3.out (by omega))
 have e1:G.lats.flatMap (latH (hashK first G.ands).2)=((hashG G).lats.map LatD.cells).flatten:=by
  unfold hashG
  rw [←HFD.out]
  show _=((G.lats.map _).map LatD.cells).flatten
  rw [List.map_map,List.flatMap_def];rfl
 have e2:(hashK first G.ands).1.flatMap AndD.cells=((hashG G).ands.map AndD.cells).flatten:=by
  unfold hashG
  rw [←HFD.out,List.flatMap_def]
 have e3:(G.outs.map (renL (hashK first G.ands).2)).map zH=((hashG G).outs.map intC).flatten:=by
  unfold hashG
  rw [←HFD.out]
  show _=((G.outs.map _).map intC).flatten
  generalize G.outs.map (renL (hashK first G.ands).2)=l
  induction l with
  | nil=>rfl
  | cons x t ih=>rw [List.map_cons,List.map_cons,List.flatten_cons,←ih];rfl
 rw [e1] at hP1
 rw [e2] at hP2
 rw [e3] at hP3
 obtain ⟨a1',c1',he1,hR1⟩:=own_row hP1 (by intro l hl;obtain ⟨d,_,rfl⟩:=List.mem_map.1 hl;rfl) (by decide)
 obtain ⟨a2',c2',he2,hR2⟩:=own_row hP2 (by intro l hl;obtain ⟨d,_,rfl⟩:=List.mem_map.1 hl;rfl) (by decide)
 obtain ⟨a3',c3',he3,hR3⟩:=own_row hP3 (by intro l hl;obtain ⟨d,_,rfl⟩:=List.mem_map.1 hl;rfl) (by decide)
 simp only [Value.slice.injEq,true_and] at he1 he2 he3
 obtain ⟨rfl,rfl⟩:=he1
 obtain ⟨rfl,rfl⟩:=he2
 obtain ⟨rfl,rfl⟩:=he3
 have hNw:NewAt w.heap.size ⟨a1,c1,ua,uc,a3,c3⟩:=⟨own_new hP1 (by omega),own_new hP2 (by omega),own_new hP3 (by omega)⟩
 refine ⟨⟨⟨a1,c1,ua,uc,a3,c3⟩,?_,?_,hNw⟩,?_⟩
 ·unfold GrS.cells hashG
  simp only [List.length_map,HIN.out,←HFD.out]
 ·refine ⟨hR1,hR2,hR3,?_,?_,?_⟩
  ·show (G.lats.map _).length<big
   rw [List.length_map];unfold big;omega
  ·show (hashK (firstN G) G.ands).1.length<big
   rw [←HFD.out]
   unfold big;omega
  ·show (G.outs.map _).length<big
   rw [List.length_map];unfold big;omega
 ·exact HB9.out.trans (below_grown HGW.out HB9.out.size (fun k hk=>by have:=Option.some.inj hk;omega))
end Go.Proofs.Ytlaljeobdddegaa
