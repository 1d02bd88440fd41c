import Derived.Test.YtlaljeobdddegaaJ10
import Derived.Test.YtlaljeobdddegaaJ05
namespace Go.Proofs.Ytlaljeobdddegaa
open Go.RowKit
theorem ren_own (w:World) (C0 nb lb n:Nat) (L s:List Int) (m:Nat) (hbox:w.cell? ⟨nb,0,none⟩=some (.slice (some ⟨lb,0,none⟩) n n)) (hO:w.ownsRow C0 3 1 (.slice (some ⟨lb,0,none⟩) n n) n (L.map zH)) (hn:n≤60000) (hm:m≤n) (hv:∀ v,v<m→L[v]?=some (s.getD v 0)) (hb:∀ v,v<m→0≤s.getD v 0∧s.getD v 0≤4000000) (l:Int) (h0:0≤l) (h1:l<2*(m:Int)):Calls Try.prog 50 #[.int .i64 l,.pointer (some ⟨nb,0,none⟩)] w fun e w'=>e = .returned (.int .i64 (renL s l))∧w'=w:=by
 obtain ⟨v,hve⟩:∃ v,v=(l / 2).toNat:=⟨_,rfl⟩
 have hvm:v<m:=by omega
 have hc:w.cell? ⟨lb,v,none⟩=some (.int .i64 (s.getD v 0)):=by
  rw [hO.cellAt v (by omega),List.getElem?_map,hv v hvm];rfl
 have:=ren_any w nb lb n v (s.getD v 0) l hbox (by omega) h0 hve.symm (by omega) hc (hb v hvm).1 (by have:=(hb v hvm).2;omega)
 rw [hve] at this
 exact this
structure Kept3 (a b:World) (x y z:Nat):Prop where
 os:b.os=a.os
 tape:b.tape=a.tape
 output:b.output=a.output
 size:a.heap.size≤b.heap.size
 block:∀ k,k<a.heap.size→k≠x→k≠y→k≠z→b.heap[k]?=a.heap[k]?
theorem Kept3.refl (a:World) (x y z:Nat):Kept3 a a x y z:=⟨rfl,rfl,rfl,Nat.le_refl _,fun _ _ _ _ _=>rfl⟩
theorem Kept3.step {a b c:World} {x y z:Nat} (h:Kept3 a b x y z) {row:Option Nat} (hg:b.grownBy c row) (hr:∀ k,row=some k→k=x∨k=y∨k=z∨a.heap.size≤k):Kept3 a c x y z :=
 ⟨hg.os.trans h.os,hg.tape.trans h.tape,hg.output.trans h.output,Nat.le_trans h.size hg.size,fun k h1 h2 h3 h4=>by
  rw [hg.block k (Nat.lt_of_lt_of_le h1 h.size) (fun e=>by have:=hr k e.symm;omega)]
  exact h.block k h1 h2 h3 h4⟩
theorem Kept3.cell {a b:World} {x y z:Nat} (h:Kept3 a b x y z) {k j:Nat} (h1:k<a.heap.size) (h2:k≠x) (h3:k≠y) (h4:k≠z):b.cell? ⟨k,j,none⟩=a.cell? ⟨k,j,none⟩:=World.cell?_of_block (h.block k h1 h2 h3 h4)
theorem GtAt.far {C:Nat} {w w':World} {gb mb first:Nat} {hs:List AndD} {u:Value} (h:GtAt C w gb mb first hs u) {z:Nat} (hg:w.grownBy w' (some z)) (h1:z≠gb) (h2:z≠mb) (h3:u.ownBlock≠some z):GtAt C w' gb mb first hs u :=
 have f:∀ j,w'.cell? ⟨gb,j,none⟩=w.cell? ⟨gb,j,none⟩:=fun j=>hg.cell_far ⟨gb,j,none⟩ h.lt (fun e=>h1 (by cases e;rfl))
 ⟨(f 0).trans h.c0,(f 1).trans h.c1,(f 2).trans h.c2,h.ow.kept hg (.inr h3),h.kn.to (hg.block mb h.lm (fun e=>h2 (by cases e;rfl))),fun j=>(hg.frozen_far ⟨gb,j,none⟩ h.lt (fun e=>h1 (by cases e;rfl))).trans (h.fr j),Nat.le_trans h.ge hg.size,Nat.lt_of_lt_of_le h.lt hg.size,Nat.lt_of_lt_of_le h.lm hg.size,h.ne,h.ng,h.nm⟩
theorem Grew.cell {w w':World} {gb mb:Nat} {row:Option Nat} (h:Grew w w' gb mb row) {k j:Nat} (h1:k<w.heap.size) (h2:some k≠row) (h3:k≠gb) (h4:k≠mb):w'.cell? ⟨k,j,none⟩=w.cell? ⟨k,j,none⟩:=by
 obtain ⟨w1,w2,g1,g2,g3⟩:=h
 have s1:=g1.size
 have s2:=g2.size
 exact (g3.cell_far ⟨k,j,none⟩ (by show k<_;omega) (fun e=>h4 (by cases e;rfl))).trans ((g2.cell_far ⟨k,j,none⟩ (by show k<_;omega) (fun e=>h3 (by cases e;rfl))).trans (g1.cell_far ⟨k,j,none⟩ h1 h2))
theorem Grew.own {w w':World} {gb mb:Nat} {row:Option Nat} (h:Grew w w' gb mb row) {C e sz n:Nat} {v:Value} {xs:List Value} (ho:w.ownsRow C e sz v n xs) (h2:v.ownBlock≠row) (h3:v.ownBlock≠some gb) (h4:v.ownBlock≠some mb):w'.ownsRow C e sz v n xs:=by
 obtain ⟨w1,w2,g1,g2,g3⟩:=h
 exact ((ho.kept g1 (.inr h2)).kept g2 (.inr h3)).kept g3 (.inr h4)
theorem Grew.size {w w':World} {gb mb:Nat} {row:Option Nat} (h:Grew w w' gb mb row):w.heap.size≤w'.heap.size:=by
 obtain ⟨w1,w2,g1,g2,g3⟩:=h
 exact Nat.le_trans g1.size (Nat.le_trans g2.size g3.size)
theorem Grew.keep {a w w':World} {gb mb lb:Nat} {row:Option Nat} (h:Grew w w' gb mb row) (hk:Kept3 a w gb mb lb) (hr:∀ k,row=some k→a.heap.size≤k):Kept3 a w' gb mb lb:=by
 obtain ⟨w1,w2,g1,g2,g3⟩:=h
 refine ((hk.step g1 fun k e=>?_).step g2 fun k e=>?_).step g3 fun k e=>?_
 ·have:=hr k e;omega
 ·have:=Option.some.inj e;omega
 ·have:=Option.some.inj e;omega
end Go.Proofs.Ytlaljeobdddegaa

namespace Go.Proofs.Ytlaljeobdddegaa
open Go.RowKit
set_option maxRecDepth 100000 in
set_option maxHeartbeats 8000000 in
theorem hsGates (wc:World) (ands:List AndD) (C0 B first n qb lb gb mb:Nat) (a:Option Addr) (c:Nat) (L0:List Int) (u0:Value) (HL0:Hid (L0.length=n)) (HV0:Hid (∀ v,v<first+0→L0[v]?=some ((hashK first (ands.take 0)).2.getD v 0))) (HO:Hid (wc.ownsRow C0 3 1 (.slice (some ⟨lb,0,none⟩) n n) n ((L0).map zH))) (HG0:Hid (GtAt wc.heap.size wc gb mb first (hashK first (ands.take 0)).1 u0)) (q5:wc.cell? ⟨qb,0,none⟩=some (.slice (some ⟨lb,0,none⟩) n n)) (hqb:qb<wc.heap.size) (hlbw:lb<wc.heap.size) (hlq:lb≠qb) (hqg:qb≠gb) (hqm:qb≠mb) (hlg':lb≠gb) (hlm':lb≠mb) (hn:n≤60000) (hf:1≤first) (hfn:first+ands.length=n) (HR:Hid (RowAt B wc a 2 (ands.map AndD.cells))) (hBg:B≤gb) (hBm:B≤mb) (hBl:B≤lb) (hin:Hid (∀ (k:Nat) (d:AndD),ands[k]?=some d→(0≤d.x∧d.x<2*((first+k:Nat):Int))∧(0≤d.y∧d.y<2*((first+k:Nat):Int)))) (K':Act→World→Prop) (Q0:Exit→Act→World→Prop) (x0 x1 x2 x6 x8 x9 x10 x11 x12 x13 x14 x15 x16 x17 x18 x19 x20 x21 x22 x23 x24 x25 x26 x27 x28 x29 x30 x31 x32 x33 x34 x35 x39 x40 x41 x42 x43 x44 x45 x46 x47 x48 x49 x50 x51 x52 x53 x54 x55 x56 x57 x58 x59 x60 x61 x62 x63 x64 x65 x66 x67 x68 x69 x70 x71 x72 x73 x74 x75 x76 x77 x78 x79 x80 x81 x82 x83 x84 x85 x86 x87 x88 x89 x90 x91 x92 x93 x94 x95 x96 x97 x98 x99 x100 x101 x102 x103 x104 x105 x106 x107 x108:Value)
  (HK:Hid (∀ (w':World) (s8 s9 s38 s39 s40 s41 s42 s43 s44 s45 s46 s47 s48 s49 s50 s51 s52 s53 s54 s55 s56 s57 s58:Value),(∃ (L:List Int) (u:Value),L.length=n∧(∀ v,v<first+ands.length→L[v]?=some ((hashK first ands).2.getD v 0))∧w'.ownsRow C0 3 1 (.slice (some ⟨lb,0,none⟩) n n) n ((L).map zH)∧GtAt wc.heap.size w' gb mb first (hashK first ands).1 u∧w'.cell? ⟨qb,0,none⟩=some (.slice (some ⟨lb,0,none⟩) n n)∧Kept3 wc w' gb mb lb)→K' ⟨#[x0,x1,x2,.int .i64 first,.pointer (some ⟨gb,0,none⟩),.pointer (some ⟨qb,0,none⟩),x6,.func (.func 50) #[] #[.pointer (some ⟨qb,0,none⟩)],s8,s9,x10,x11,x12,x13,x14,x15,x16,x17,x18,x19,x20,x21,x22,x23,x24,x25,x26,x27,x28,x29,x30,x31,x32,x33,x34,x35,.slice a ands.length c,.int .i64 (ands.length:Int),s38,s39,s40,s41,s42,s43,s44,s45,s46,s47,s48,s49,s50,s51,s52,s53,s54,s55,s56,s57,s58,x59,x60,x61,x62,x63,x64,x65,x66,x67,x68,x69,x70,x71,x72,x73,x74,x75,x76,x77,x78,x79,x80,x81,x82,x83,x84,x85,x86,x87,x88,x89,x90,x91,x92,x93,x94,x95,x96,x97,x98,x99,x100,x101,x102,x103,x104,x105,x106,x107,x108],[]⟩ w')) :
  Code.wp Try.prog ((Try.f33.body.bind (blockAt 2)).getD .skip) (Exit.then K' Q0) ⟨#[x0,x1,x2,.int .i64 first,.pointer (some ⟨gb,0,none⟩),.pointer (some ⟨qb,0,none⟩),x6,.func (.func 50) #[] #[.pointer (some ⟨qb,0,none⟩)],x8,x9,x10,x11,x12,x13,x14,x15,x16,x17,x18,x19,x20,x21,x22,x23,x24,x25,x26,x27,x28,x29,x30,x31,x32,x33,x34,x35,.slice a ands.length c,.int .i64 (ands.length:Int),.int .i64 0,x39,x40,x41,x42,x43,x44,x45,x46,x47,x48,x49,x50,x51,x52,x53,x54,x55,x56,x57,x58,x59,x60,x61,x62,x63,x64,x65,x66,x67,x68,x69,x70,x71,x72,x73,x74,x75,x76,x77,x78,x79,x80,x81,x82,x83,x84,x85,x86,x87,x88,x89,x90,x91,x92,x93,x94,x95,x96,x97,x98,x99,x100,x101,x102,x103,x104,x105,x106,x107,x108],[]⟩ wc:=by
 conv=>arg 2;whnf
 go_wp2_with fail
 go_loopw [38] (fun i' w'=>∃ (k:Nat) (L:List Int) (u:Value),k≤ands.length∧i' = .int .i64 k∧Hid (L.length=n)∧Hid (∀ v,v<first+k→L[v]?=some ((hashK first (ands.take k)).2.getD v 0))∧Hid (w'.ownsRow C0 3 1 (.slice (some ⟨lb,0,none⟩) n n) n ((L).map zH))∧Hid (GtAt wc.heap.size w' gb mb first (hashK first (ands.take k)).1 u)∧Hid (w'.cell? ⟨qb,0,none⟩=some (.slice (some ⟨lb,0,none⟩) n n))∧Hid (Kept3 wc w' gb mb lb)) (fun i' _=>ands.length - (intOf i').toNat)
 case atStart=>exact ⟨0,L0,_,Nat.zero_le _,rfl,HL0.out,fun v hv=>HV0.out v hv,HO.out,HG0.out,q5,Kept3.refl _ _ _ _⟩
 case round =>
  obtain ⟨k,L,u,hk,rfl,HLn,HLv,HOr,HGt,HQ,HKr⟩:=hrel
  by_cases hlt:k<ands.length
  ·obtain ⟨z,hz⟩:∃ z,ands[k]?=some z:=getElem_lt hlt
   obtain ⟨rb,ro,ea,hrb,hrc⟩:=HR.out.el hz
   subst ea
   have HZ:=hin.out k z hz
   have hsz:=HKr.out.size
   have HOK:=hidden (hash_all hf (ands.take k) (fun j d hd=>hin.out j d (by
    have hj:=(List.getElem?_eq_some_iff.1 hd).1
    rw [List.length_take] at hj
    rw [List.getElem?_take_of_lt (by omega)] at hd
    exact hd)))
   have hkl:(ands.take k).length=k:=by rw [List.length_take];omega
   have HNX:Hid (hashK first (ands.take (k+1))=stepH first (hashK first (ands.take k)) z):=by show _=_;rw [take_snoc hz];exact hashK_next _ _ _
   obtain ⟨x,y⟩:=z
   have c1:wr.cell? ⟨rb,ro+k*2,none⟩=some (.int .i64 x):=(HKr.out.cell (by omega) (by omega) (by omega) (by omega)).trans (hrc 0 _ rfl)
   have c2:wr.cell? ⟨rb,ro+k*2+1,none⟩=some (.int .i64 y):=(HKr.out.cell (by omega) (by omega) (by omega) (by omega)).trans (hrc 1 _ rfl)
   obtain ⟨hzx,hzy⟩:=HZ
   simp only at hzx hzy
   have rox:=(renL_ok HOK.out hzx.1 (by rw [hkl];have:=hzx.2;omega)).1
   have roy:=(renL_ok HOK.out hzy.1 (by rw [hkl];have:=hzy.2;omega)).1
   have hll:=HOK.out.len
   have hlf:=HOK.out.few
   have HHS:=hidden HOK.out.hs
   have HLI:Hid (∀ v,v<first+k→0≤(hashK first (ands.take k)).2.getD v 0∧(hashK first (ands.take k)).2.getD v 0≤4000000):=fun v hv=>by
    obtain ⟨t,ht⟩:=getElem_lt (l:=(hashK first (ands.take k)).2) (k:=v) (by omega)
    have:=HOK.out.lits v t ht
    rw [List.getD_eq_getElem?_getD,ht]
    show 0≤t∧t≤4000000
    omega
   unfold stepH at HNX
   simp only at HNX
   clear HOK
   rw [hkl] at hll hlf
   clear hkl hz hrc
   generalize hsg:hashK first (ands.take k)=sg at *
   clear hsg
   obtain ⟨hs,ls⟩:=sg
   simp only at rox roy hll hlf
   have hltI:(k:Int)<(ands.length:Int):=by omega
   go_upto_region 13 with fail
   generalize hWA:World.alloc wr _=wA
   obtain ⟨kb,hkb⟩:∃ x,x=wr.heap.size:=⟨_,rfl⟩
   have hBA:Below wr.heap.size wr wA:=by rw [←hWA];exact (Below.refl _ _).alloc (Nat.le_refl _) _
   have hGA:wr.grownBy wA none:=by rw [←hWA];exact alH _ _ _
   have hkA:kb<wA.heap.size:=by rw [←hWA,hkb];simp
   have hc0:wA.cell? ⟨kb,0,none⟩=some (.int .i64 x):=by rw [←hWA,hkb];exact cell_new rfl
   have hc1:wA.cell? ⟨kb,1,none⟩=some (.int .i64 y):=by rw [←hWA,hkb];exact cell_new rfl
   rw [←hkb]
   have hkr:wr.heap.size≤kb:=by omega
   clear hkb hWA
   have hOl:=(HOr.out.lt lb rfl).2
   have hglt:=HGt.out.lt
   have hmlt:=HGt.out.lm
   have hsA:=hBA.size
   have HOA:Hid (wA.drew.ownsRow C0 3 1 (.slice (some ⟨lb,0,none⟩) n n) n ((L).map zH)):=own_below HOr.out ⟨hBA.os,hBA.tape,hBA.output,hBA.size,hBA.block⟩
   have HGA:Hid (GtAt wc.heap.size wA.drew gb mb first hs u):=HGt.out.to ⟨hBA.os,hBA.tape,hBA.output,hBA.size,hBA.block⟩
   have HKA:Hid (Kept3 wc wA.drew gb mb lb):=(HKr.out.step hGA (fun k e=>by cases e)).step (drH wA none) (fun k e=>by cases e)
   have hSA:wA.cell? ⟨qb,0,none⟩=some (.slice (some ⟨lb,0,none⟩) n n)∧wA.cell? ⟨kb,0,none⟩=some (.int .i64 x)∧wA.cell? ⟨kb,1,none⟩=some (.int .i64 y):=⟨(hBA.cell (p:=⟨qb,0,none⟩) (by show qb<_;omega)).trans HQ.out,hc0,hc1⟩
   have hul:(Value.slice (some ⟨lb,0,none⟩) n n).ownBlock≠u.ownBlock:=fun e=>by have:=(HGt.out.ow.lt lb e.symm).1;omega
   have hlg:(Value.slice (some ⟨lb,0,none⟩) n n).ownBlock≠some gb:=fun e=>hlg' (by cases e;rfl)
   have hlm:(Value.slice (some ⟨lb,0,none⟩) n n).ownBlock≠some mb:=fun e=>hlm' (by cases e;rfl)
   have hlk:lb≠kb:=by omega
   have KS:Hid (∀ w2,Grew wA.drew w2 gb mb u.ownBlock→w2.cell? ⟨qb,0,none⟩=some (.slice (some ⟨lb,0,none⟩) n n)∧w2.cell? ⟨kb,0,none⟩=some (.int .i64 x)∧w2.cell? ⟨kb,1,none⟩=some (.int .i64 y)):=fun w2 hg =>
    have hq2:some qb≠u.ownBlock:=fun e=>by have:=(HGt.out.ow.lt qb e.symm).1;omega
    have hk2:some kb≠u.ownBlock:=fun e=>by have:=(HGt.out.ow.lt kb e.symm).2;omega
    ⟨(hg.cell (by show qb<wA.heap.size;omega) hq2 hqg hqm).trans hSA.1,(hg.cell (show kb<wA.heap.size from hkA) hk2 (by omega) (by omega)).trans hSA.2.1,(hg.cell (show kb<wA.heap.size from hkA) hk2 (by omega) (by omega)).trans hSA.2.2⟩
   have RX:Hid (Calls Try.prog 50 #[.int .i64 x,.pointer (some ⟨qb,0,none⟩)] wA.drew fun e w'=>e = .returned (.int .i64 (renL ls x))∧w'=wA.drew):=ren_own wA.drew C0 qb lb n L ls (first+k) hSA.1 HOA.out hn (by omega) HLv.out HLI.out x hzx.1 hzx.2
   have RY:Hid (Calls Try.prog 50 #[.int .i64 y,.pointer (some ⟨qb,0,none⟩)] wA.drew fun e w'=>e = .returned (.int .i64 (renL ls y))∧w'=wA.drew):=ren_own wA.drew C0 qb lb n L ls (first+k) hSA.1 HOA.out hn (by omega) HLv.out HLI.out y hzy.1 hzy.2
   have AND:=hidden (and_any wc.heap.size wA.drew gb mb first hs u HGA.out HHS.out (by omega) (renL ls x) (renL ls y) rox roy)
   generalize renL ls x=rx at *
   generalize renL ls y=ry at *
   obtain ⟨ix,hix⟩:∃ x,x=first+k:=⟨_,rfl⟩
   have eJ:IntKind.i64.wrap ((first:Int)+(k:Int))=(ix:Int):=by rw [wrapI _ (by omega) (by omega)];omega
   have hxI:(ix:Int)<(n:Int):=by omega
   have e3:IntKind.i64.wrap ((k:Int)+1)=(k:Int)+1:=wrapI _ (by omega) (by omega)
   have HIX:=hidden hix
   have hixn:ix<n:=by omega
   clear hix
   clear hBA hGA hc0 hc1 c1 c2 HQ HGA HHS HLI hzx hzy rox roy
   refine wp_region_noPanic ?_
   refine wp_region_held_drew (S:=(fun w'=>w'.cell? ⟨qb,0,none⟩=some (.slice (some ⟨lb,0,none⟩) n n)∧w'.cell? ⟨kb,0,none⟩=some (.int .i64 x)∧w'.cell? ⟨kb,1,none⟩=some (.int .i64 y))) (by kernel_rfl) (by (first | assumption | exact hSA | exact hS2 | exact ⟨(World.cell?_setCell_far _ _ _ _ hlq).trans hS2.1,(World.cell?_setCell_far _ _ _ _ hlk).trans hS2.2.1,(World.cell?_setCell_far _ _ _ _ hlk).trans hS2.2.2⟩)) (fun hHeld=>?_)
   refine tk 0 ?_
   refine tk 1 ?_
   refine tk 2 ?_
   refine tk 3 ?_
   refine tk 4 ?_
   refine tk 5 ?_
   refine tk 6 ?_
   refine tk 7 ?_
   refine tk 9 ?_
   refine tk 10 ?_
   refine tk 11 ?_
   refine rd 8 fun K hK=>?_
   (try simp only [gA,gB,gC])
   go_simp
   go_at_call 50
   refine RX.out.mono ?_
   rintro e w2 ⟨rfl,rfl⟩
   go_wp2_with fail
   refine hK.out _ _ (by (first | assumption | exact hSA | exact hS2 | exact ⟨(World.cell?_setCell_far _ _ _ _ hlq).trans hS2.1,(World.cell?_setCell_far _ _ _ _ hlk).trans hS2.2.1,(World.cell?_setCell_far _ _ _ _ hlk).trans hS2.2.2⟩)) (fun hHeld8=>?_)
   clear hK K
   (try simp only [Act.put]);(try simp only [List.setIfInBounds_toArray]);(try simp only [List.set_cons_zero,List.set_cons_succ])
   refine rd 12 fun K hK=>?_
   (try simp only [gA,gB,gC])
   go_simp
   go_at_call 50
   refine RY.out.mono ?_
   rintro e w2 ⟨rfl,rfl⟩
   go_wp2_with fail
   refine hK.out _ _ (by (first | assumption | exact hSA | exact hS2 | exact ⟨(World.cell?_setCell_far _ _ _ _ hlq).trans hS2.1,(World.cell?_setCell_far _ _ _ _ hlk).trans hS2.2.1,(World.cell?_setCell_far _ _ _ _ hlk).trans hS2.2.2⟩)) (fun hHeld12=>?_)
   clear hK K
   (try simp only [Act.put]);(try simp only [List.setIfInBounds_toArray]);(try simp only [List.set_cons_zero,List.set_cons_succ])
   refine rd 13 fun K hK=>?_
   (try simp only [gA,gB,gC])
   go_simp
   go_at_call 51
   refine AND.out.mono ?_
   rintro e w2 ⟨rfl,⟨u2,hgt2⟩,hgr2⟩
   have hS2:=KS.out w2 hgr2
   have HO2:Hid (w2.ownsRow C0 3 1 (.slice (some ⟨lb,0,none⟩) n n) n ((L).map zH)):=hgr2.own HOA.out hul hlg hlm
   have HGT2:=hidden hgt2
   have HGR2:=hidden hgr2
   clear hgt2 hgr2
   have hfz:=HO2.out.frozenAt ix
   obtain ⟨old,hold⟩:∃ old,w2.cell? ⟨lb,ix,none⟩=some old:=by
    rw [HO2.out.cellAt ix (by rw [Nat.mul_one];exact hixn)]
    have hL:ix<(L.map zH).length:=by rw [List.length_map,HLn.out];exact hixn
    exact ⟨_,List.getElem?_eq_getElem hL⟩
   have HST:=hidden (HO2.out.stored ix (.int .i64 (andH first hs rx ry).2))
   go_wp2_with fail
   refine hK.out _ _ (by (first | assumption | exact hSA | exact hS2 | exact ⟨(World.cell?_setCell_far _ _ _ _ hlq).trans hS2.1,(World.cell?_setCell_far _ _ _ _ hlk).trans hS2.2.1,(World.cell?_setCell_far _ _ _ _ hlk).trans hS2.2.2⟩)) (fun hHeld13=>?_)
   clear hK K
   (try simp only [Act.put]);(try simp only [List.setIfInBounds_toArray]);(try simp only [List.set_cons_zero,List.set_cons_succ])
   refine tk 14 ?_
   refine rd 15 fun K hK=>?_
   (try simp only [gA,gB,gC])
   go_simp
   refine hK.out _ _ (by (first | assumption | exact hSA | exact hS2 | exact ⟨(World.cell?_setCell_far _ _ _ _ hlq).trans hS2.1,(World.cell?_setCell_far _ _ _ _ hlk).trans hS2.2.1,(World.cell?_setCell_far _ _ _ _ hlk).trans hS2.2.2⟩)) (fun hHeld15=>?_)
   clear hK K
   (try simp only [Act.put]);(try simp only [List.setIfInBounds_toArray]);(try simp only [List.set_cons_zero,List.set_cons_succ])
   refine wpAnyH_done (by kernel_rfl) ?_ _
   refine NoPanic.normal ?_
   generalize hW6:World.setCell w2 _ _=w6
   rw [hW6] at HST
   have HQ6:Hid (w6.cell? ⟨qb,0,none⟩=some (.slice (some ⟨lb,0,none⟩) n n)):=by rw [←hW6];exact (World.cell?_setCell_far _ _ _ _ hlq).trans hS2.1
   clear hW6 hold hfz
   have hg26:w2.grownBy w6 (some lb):=HST.out.2
   have hs2:=HGR2.out.size
   have HGT6:Hid (GtAt wc.heap.size w6 gb mb first (andH first hs rx ry).1 u2):=HGT2.out.far hg26 hlg' hlm' (fun e=>by have:=(HGT2.out.ow.lt lb e).1;omega)
   have HK6:Hid (Kept3 wc w6 gb mb lb):=(HGR2.out.keep HKA.out (fun k e=>(HGt.out.ow.lt k e).1)).step hg26 (fun k e=>by have:=Option.some.inj e;omega)
   have HO6:Hid (w6.ownsRow C0 3 1 (.slice (some ⟨lb,0,none⟩) n n) n ((L.set ix (andH first hs rx ry).2).map zH)):=by
    have:=HST.out.1
    rw [show Value.int .i64 (andH first hs rx ry).2=zH (andH first hs rx ry).2 from rfl,←List.map_set] at this
    exact this
   have HL6:Hid ((L.set ix (andH first hs rx ry).2).length=n):=by show _=_;rw [List.length_set];exact HLn.out
   have HV6:Hid (∀ v,v<first+(k+1)→(L.set ix (andH first hs rx ry).2)[v]?=some ((hashK first (ands.take (k+1))).2.getD v 0)):=fun v hv=>by
    have hix:=HIX.out
    rw [HNX.out]
    by_cases e:v=ix
    ·subst e
     rw [List.getElem?_set_self (by rw [HLn.out];omega)]
     simp only
     rw [List.getD_eq_getElem?_getD,List.getElem?_append_right (by omega),show v - ls.length=0 by omega]
     rfl
    ·rw [List.getElem?_set_ne (fun h=>e h.symm)]
     simp only
     rw [List.getD_eq_getElem?_getD,List.getElem?_append_left (by omega),←List.getD_eq_getElem?_getD]
     exact HLv.out v (by omega)
   have HGT7:Hid (GtAt wc.heap.size w6 gb mb first (hashK first (ands.take (k+1))).1 u2):=by show GtAt _ _ _ _ _ _ _;rw [HNX.out];exact HGT6.out
   clear HST HO2 HGT2 HGR2 hg26 hS2 HGT6 HOA HKA HGt KS RX RY AND hSA HLv HOr HKr HNX
   go_wp2
   go_roundw
   case measure=>simp [intOf];omega
   case rel=>exact ⟨k+1,_,u2,by omega,by simp,HL6.out,HV6.out,HO6.out,HGT7.out,HQ6.out,HK6.out⟩
  ·have hge:¬ ((k:Int)<(ands.length:Int)):=by omega
   have hke:k=ands.length:=by omega
   subst hke
   rw [List.take_length] at HLv HGt
   go_wp2
   exact HK.out _ _ _ _ _ _ _ _ _ _ _ _ _ _ _ _ _ _ _ _ _ _ _ _ ⟨L,u,HLn.out,HLv.out,HOr.out,HGt.out,HQ.out,HKr.out⟩
end Go.Proofs.Ytlaljeobdddegaa
