import Derived.Test.YtlaljeobdddegaaJ05
import Derived.Test.YtlaljeobdddegaaJ13
namespace Go.Proofs.Ytlaljeobdddegaa
open Go.RowKit
def lookC (G:GrD) (v:Nat) (s:List Bool × List Nat):List Bool × List Nat :=
 if v<firstN G then
  match G.lats[v - 1 - G.ins.toNat]? with
  | some l=>needC (l.next.toNat / 2) s
  | none=>s
 else match G.ands[v - firstN G]? with
  | some d=>needC (d.y.toNat / 2) (needC (d.x.toNat / 2) s)
  | none=>s
theorem needC_wl {v m:Nat} {s:List Bool × List Nat} (h:s.2.length≤m):(needC v s).2.length≤m+1:=by
 unfold needC
 split
 ·omega
 ·simp;omega
set_option maxRecDepth 100000 in
set_option maxHeartbeats 8000000 in
theorem look_any (C B:Nat) (w:World) (sb gb g n ni:Nat) (S:GrS) (G:GrD) (hF:FineG G ni n) (s:List Bool × List Nat) (wv:Value) (h:SiAt C w sb gb g n s wv) (hC:C≤w.heap.size) (hbx:BoxAt w gb S G) (hgbC:gb<C) (hat:GrAt B w S G) (hBC:B≤C) (v:Nat) (hv0:ni<v) (hvn:v<n) (hwl:s.2.length≤59999) :
  Calls Try.prog 47 #[.pointer (some ⟨sb,0,none⟩),.int .i64 (v:Int)] w fun e w'=>(∃ x,e = .returned x)∧(∃ wv',SiAt C w' sb gb g n (lookC G v s) wv')∧Below C w w':=by
 have FG:Hid (∀ w',Below w.heap.size w w'→Calls Try.prog 30 #[.pointer (some ⟨gb,0,none⟩)] w' fun e w''=>e = .returned (.int .i64 (firstN G:Nat))∧∃ k,w''=w'.drewN k):=fun w' hw'=>by
  have:=firstGate_any w' gb S G (hbx.to hbx.lt hw') (by rw [hF.ins];omega) (by have:=hF.first;have:=hF.le;have:=hF.all;rw [hF.ins];omega) hat.ll
  rw [show G.first=((firstN G:Nat):Int) by unfold GrD.first;rw [hF.ins];have:=hF.first;omega] at this
  exact this
 have HF:=hidden hF
 have hf1:=hF.first
 have hf2:=hF.all
 have hf3:=hF.le
 have HIN:=hidden hF.ins
 obtain ⟨first,hfd⟩:∃ f,f=firstN G:=⟨_,rfl⟩
 have HFD:=hidden hfd
 rw [←hfd] at FG hf1 hf2
 have hf4:ni+G.lats.length+1≤first:=by omega
 have hf5:first≤ni+G.lats.length+1:=by omega
 have c0:=h.c0
 have HSI:=hidden h
 have HBX:=hidden hbx
 have HAT:=hidden hat
 have hgl:=hbx.lt
 clear h hbx hat hF hfd hf1
 go_enter Try.func47,Try.ntmps47
 go_wp2_with fail
 go_at_call 30
 refine (FG.out _ (Below.refl _ _)).mono ?_
 rintro e w0 ⟨rfl,dk,hw0⟩
 have HB0:Hid (Below w.heap.size w w0):=by rw [hw0];exact Below.drewN (Below.refl _ _) _
 have hs0:w.heap.size≤w0.heap.size:=HB0.out.size
 have HS0:Hid (SiAt C w0 sb gb g n s wv):=HSI.out.to HB0.out
 have HX0:Hid (BoxAt w0 gb S G):=HBX.out.to hgl HB0.out
 have HA0:Hid (GrAt B w0 S G):=HAT.out.to (HB0.out.mono (by omega))
 clear hw0 HSI HBX HAT c0 FG
 by_cases hvf:v<first
 ·obtain ⟨i,hi⟩:∃ i,i=v - 1 - ni:=⟨_,rfl⟩
  have hil:i<G.lats.length:=by omega
  obtain ⟨d,hd⟩:=getElem_lt hil
  obtain ⟨rb,ro,ea,hrb,hrc⟩:=HA0.out.l.el hd
  obtain ⟨ln,lx⟩:=d
  have hrbC:rb<C:=by omega
  have hin:=HF.out.lats _ (List.mem_of_getElem? hd)
  simp only at hin
  have hLK:lookC G v s=needC (ln.toNat / 2) s:=by
   unfold lookC
   rw [if_pos (by have:=HFD.out;omega),HIN.out,show ((ni:Int)).toNat=ni by omega,←hi,hd]
  have HLK:=hidden hLK
  have ND:Hid (∀ w',Below w0.heap.size w0 w'→Calls Try.prog 46 #[.pointer (some ⟨sb,0,none⟩),.int .i64 ln] w' fun e w''=>(∃ x,e = .returned x)∧(∃ wv',SiAt C w'' sb gb g n (needC (ln.toNat / 2) s) wv')∧Below C w' w''):=fun w' hw'=>needC_any C w' sb gb g n s wv (HS0.out.to hw') (by have:=hw'.size;omega) hf3 ln _ hin.1 rfl (by omega) (by omega)
  have c0:=HS0.out.c0
  have q0:=HX0.out.c0
  rw [HIN.out] at q0
  have q1:=HX0.out.c1
  rw [ea] at q1
  have cL:w0.cell? ⟨rb,ro+i*2,none⟩=some (.int .i64 ln):=hrc 0 _ rfl
  have hvI:(v:Int)<(first:Int):=by omega
  have e1:IntKind.i64.wrap ((v:Int) - 1)=(v:Int) - 1:=wrapI _ (by omega) (by omega)
  have e2:IntKind.i64.wrap ((v:Int) - 1 - (ni:Int))=(i:Int):=by rw [wrapI _ (by omega) (by omega)];omega
  have hiI:(i:Int)<(G.lats.length:Int):=by omega
  clear hrc ea hd hLK hi hrb hin HX0 HA0
  go_upto_region 2 with fail
  (
  refine wp_region_noPanic ?_
  refine wp_region_held_drew (S:=(fun w'=>w'.cell? ⟨sb,0,none⟩=some (.pointer (some ⟨gb,0,none⟩))∧w'.cell? ⟨gb,0,none⟩=some (.int .i64 (ni:Int))∧w'.cell? ⟨gb,1,none⟩=some (.slice (some ⟨rb,ro,none⟩) G.lats.length S.c1)∧w'.cell? ⟨rb,ro+i*2,none⟩=some (.int .i64 ln))) (by kernel_rfl) (by first | assumption | exact ⟨c0,q0,q1,cL⟩ | exact ⟨hsi2.c0,(hb2.cell (p:=⟨gb,0,none⟩) hgbC).trans q0,(hb2.cell (p:=⟨gb,1,none⟩) hgbC).trans q1,(hb2.cell (p:=⟨rb,ro+i*2,none⟩) hrbC).trans cL⟩) (fun hHeld=>?_)
  refine tk 0 ?_
  refine tk 1 ?_
  refine tk 2 ?_
  refine tk 3 ?_
  refine tk 4 ?_
  refine tk 5 ?_
  refine tk 6 ?_
  refine tk 7 ?_
  refine tk 8 ?_
  refine tk 9 ?_
  refine tk 10 ?_
  refine tk 11 ?_
  refine tk 12 ?_
  refine tk 13 ?_
  refine tk 14 ?_
  refine tk 15 ?_
  refine tk 16 ?_
  refine tk 17 ?_
  refine tk 18 ?_
  refine tk 19 ?_
  refine tk 20 ?_
  refine rd 21 fun K hK=>?_
  (try simp only [gA,gB,gC])
  go_simp
  go_at_call 46
  refine (ND.out _ (Below.drew (Below.refl _ _))).mono ?_
  rintro e w2 ⟨⟨_,rfl⟩,⟨wv2,hsi2⟩,hb2⟩
  replace hb2:Below C w0 w2:=(Below.drew (Below.refl C w0)).trans hb2
  go_wp2_with fail
  refine hK.out _ _ (by first | assumption | exact ⟨c0,q0,q1,cL⟩ | exact ⟨hsi2.c0,(hb2.cell (p:=⟨gb,0,none⟩) hgbC).trans q0,(hb2.cell (p:=⟨gb,1,none⟩) hgbC).trans q1,(hb2.cell (p:=⟨rb,ro+i*2,none⟩) hrbC).trans cL⟩) (fun hHeld1=>?_)
  clear hK K
  try simp only [Act.put,List.setIfInBounds_toArray,List.set_cons_zero,List.set_cons_succ]
  refine wpAnyH_done (by kernel_rfl) ?_ _
  refine NoPanic.normal ?_
  )
  go_wp2
  (try simp only [Exit.inBlock,Exit.then])
  refine bodyPost_ret (results_none rfl _ _ _) rfl ?_
  refine ⟨⟨_,rfl⟩,?_,(HB0.out.mono hC).trans hb2⟩
  rw [HLK.out];exact ⟨wv2,hsi2⟩
 ·obtain ⟨i,hi⟩:∃ i,i=v - first:=⟨_,rfl⟩
  have hil:i<G.ands.length:=by omega
  obtain ⟨d,hd⟩:=getElem_lt hil
  obtain ⟨rb,ro,ea,hrb,hrc⟩:=HA0.out.a.el hd
  obtain ⟨dx,dy⟩:=d
  have hrbC:rb<C:=by omega
  have hin:=HF.out.ands i _ hd
  rw [←HFD.out] at hin
  simp only at hin
  have hLK:lookC G v s=needC (dy.toNat / 2) (needC (dx.toNat / 2) s):=by
   unfold lookC
   rw [if_neg (by have:=HFD.out;omega),←HFD.out,←hi,hd]
  have HLK:=hidden hLK
  have N1:Hid (∀ w',Below w0.heap.size w0 w'→Calls Try.prog 46 #[.pointer (some ⟨sb,0,none⟩),.int .i64 dx] w' fun e w''=>(∃ x,e = .returned x)∧(∃ wv',SiAt C w'' sb gb g n (needC (dx.toNat / 2) s) wv')∧Below C w' w''):=fun w' hw'=>needC_any C w' sb gb g n s wv (HS0.out.to hw') (by have:=hw'.size;omega) hf3 dx _ hin.1.1 rfl (by omega) (by omega)
  have N2:Hid (∀ w' wv',SiAt C w' sb gb g n (needC (dx.toNat / 2) s) wv'→C≤w'.heap.size→Calls Try.prog 46 #[.pointer (some ⟨sb,0,none⟩),.int .i64 dy] w' fun e w''=>(∃ x,e = .returned x)∧(∃ wv',SiAt C w'' sb gb g n (needC (dy.toNat / 2) (needC (dx.toNat / 2) s)) wv')∧Below C w' w''):=fun w' wv' hs' hc'=>needC_any C w' sb gb g n _ wv' hs' hc' hf3 dy _ hin.2.1 rfl (by omega) (needC_wl (by omega))
  have c0:=HS0.out.c0
  have q2:=HX0.out.c2
  rw [ea] at q2
  have cx:w0.cell? ⟨rb,ro+i*2,none⟩=some (.int .i64 dx):=hrc 0 _ rfl
  have cy:w0.cell? ⟨rb,ro+i*2+1,none⟩=some (.int .i64 dy):=hrc 1 _ rfl
  have hvI:¬ (v:Int)<(first:Int):=by omega
  have e2:IntKind.i64.wrap ((v:Int) - (first:Int))=(i:Int):=by rw [wrapI _ (by omega) (by omega)];omega
  have hiI:(i:Int)<(G.ands.length:Int):=by omega
  clear hrc ea hd hLK hi hrb hin HX0 HA0
  go_wp2_with fail
  go_at_call 46
  refine (N1.out _ (Below.refl _ _)).mono ?_
  rintro e w1 ⟨⟨_,rfl⟩,⟨wv1,hsi1⟩,hb1⟩
  have c0':=hsi1.c0
  have q2':=(hb1.cell (p:=⟨gb,2,none⟩) hgbC).trans q2
  have cy':=(hb1.cell (p:=⟨rb,ro+i*2+1,none⟩) hrbC).trans cy
  have HS1:=hidden hsi1
  have HB1:=hidden hb1
  have hs1:=hb1.size
  clear hsi1 hb1 c0 q2 cx cy
  go_wp2_with fail
  go_at_call 46
  refine (N2.out _ _ HS1.out (by omega)).mono ?_
  rintro e w2 ⟨⟨_,rfl⟩,hsi2,hb2⟩
  go_wp2
  go_end0
  refine ⟨⟨_,rfl⟩,?_,((HB0.out.mono hC).trans HB1.out).trans hb2⟩
  rw [HLK.out];exact hsi2
end Go.Proofs.Ytlaljeobdddegaa

namespace Go.Proofs.Ytlaljeobdddegaa
open Go.RowKit
def numsK (first:Nat) (nk:List Bool) (n k:Nat):List Nat:=(List.range k).map (toV first nk)++List.replicate (n - k) 0
theorem numsK_len (first:Nat) (nk:List Bool) (n k:Nat) (h:k≤n):(numsK first nk n k).length=n:=by unfold numsK;simp;omega
theorem numsK_set (first:Nat) (nk:List Bool) (n k:Nat) (h:k<n):(numsK first nk n k).set k (toV first nk k)=numsK first nk n (k+1):=by
 unfold numsK
 rw [show n - k=(n - (k+1))+1 by omega,List.replicate_succ,List.range_succ,List.map_append]
 have:=set_mid ((List.range k).map (toV first nk)) 0 (toV first nk k) (List.replicate (n - (k+1)) 0)
 rw [List.length_map,List.length_range] at this
 rw [this];simp
theorem numsK_all (first:Nat) (nk:List Bool) (n:Nat):numsK first nk n n=(List.range n).map (toV first nk):=by unfold numsK;simp
theorem made_int (n:Nat):(madeCells (Value.int .i64 0).cells (n*1)).toList=(List.replicate n 0).map iV:=by
 rw [Nat.mul_one]
 apply List.ext_getElem?
 intro i
 by_cases h:i<n
 ·simp [madeCells,Value.cells,iV,h,Nat.mod_one]
 ·simp [madeCells,Value.cells,iV,h]
theorem rank_next {first:Nat} {nk:List Bool} {k:Nat} {b:Bool} (h:(List.replicate first true++nk)[k]?=some b):toV first nk (k+1)=toV first nk k+(if b then 1 else 0):=by
 rw [←rank_eq,←rank_eq,take_snoc h,List.count_append]
 cases b <;> rfl
set_option maxRecDepth 100000 in
set_option maxHeartbeats 4000000 in
theorem renum_any (w:World) (nb tg tc n first:Nat) (nk:List Bool) (q:w.cell? ⟨nb,0,none⟩=some (.slice (some ⟨tg,0,none⟩) n tc)) (hn:n≤60000) (HT:∀ v,v<n→w.cell? ⟨tg,v,none⟩=some (.int .i64 (toV first nk v:Nat))∧toV first nk v≤60000) (l:Int) (h0:0≤l) (h1:l<2*(n:Int)) :
  Calls Try.prog 64 #[.int .i64 l,.pointer (some ⟨nb,0,none⟩)] w fun e w'=>e = .returned (.int .i64 (litC first nk l))∧w'=w:=by
 obtain ⟨v,hv⟩:∃ v,v=l.toNat / 2:=⟨_,rfl⟩
 have hvn:v<n:=by omega
 obtain ⟨ct,hle⟩:=HT v hvn
 have e0:litC first nk l=2*(toV first nk v:Nat)+l % 2:=by rw [hv];rfl
 rw [e0]
 have q1:Int.tdiv l 2=(v:Int):=by rw [Int.tdiv_eq_ediv_of_nonneg h0];omega
 have q2:Int.tmod l 2=l % 2:=by rw [Int.tmod_eq_emod_of_nonneg h0]
 have hr:0≤l % 2∧l % 2<2:=by omega
 generalize toV first nk v=tv at *
 generalize l % 2=r at *
 have hvI:(v:Int)<(n:Int):=by omega
 have e1:IntKind.i64.wrap (v:Int)=(v:Int):=wrapI _ (by omega) (by omega)
 have e2:IntKind.i64.wrap r=r:=wrapI _ (by omega) (by omega)
 have e4:IntKind.i64.wrap (2*(tv:Int))=2*(tv:Int):=wrapI _ (by omega) (by omega)
 have e5:IntKind.i64.wrap (2*(tv:Int)+r)=2*(tv:Int)+r:=wrapI _ (by omega) (by omega)
 clear hv HT e0
 go_enter Try.func64,Try.ntmps64
 go_wp2
 go_ret
 exact ⟨rfl,rfl⟩
set_option maxRecDepth 100000 in
set_option maxHeartbeats 8000000 in
theorem kpNums (wc:World) (first:Nat) (nk nd:List Bool) (C n g nb tg:Nat) (q3:wc.cell? ⟨nb,0,none⟩=some (.slice (some ⟨tg,0,none⟩) n n)) (hnb:nb<wc.heap.size) (hnt:nb≠tg) (hg:g<wc.heap.size) (hgt:g≠tg) (hn:n≤60000) (hnd:nd.length=n) (HND:Hid (nd=List.replicate first true++nk)) (HN:Hid (∀ (i:Nat) (b:Bool),nd[i]?=some b→wc.cell? ⟨g,i,none⟩=some (.bool b))) (HZ:Hid (0=toV first nk 0)) (HTV:Hid (∀ k,toV first nk k≤60000)) (HO:Hid (wc.ownsRow C 3 1 (.slice (some ⟨tg,0,none⟩) n n) n ((List.replicate n 0).map iV))) (K':Act→World→Prop) (Q0:Exit→Act→World→Prop) (x0 x1 x2 x5 x6 x7 x8 x9 x10 x11 x12 x13 x14 x15 x16 x17 x18 x19 x20 x21 x22 x23 x27 x28 x29 x30 x31 x32 x33 x34 x35 x36 x37 x38 x39 x40 x41 x42 x43 x44 x45 x46 x47 x48 x49 x50 x51 x52 x53 x54 x55 x56 x57 x58 x59 x60 x61 x62 x63 x64 x65 x66 x67 x68 x69 x70 x71 x72 x73 x74 x75 x76 x77 x78 x79 x80 x81 x82 x83 x84 x85 x86 x87 x88 x89 x90 x91 x92 x93 x94 x95 x96 x97 x98 x99 x100 x101 x102 x103 x104 x105 x106 x107 x108 x109 x110 x111 x112 x113 x114 x115 x116 x117 x118 x119 x120 x121 x122 x123 x124 x125 x126 x127 x128 x129 x130 x131 x132 x133 x134 x135 x136 x137 x138 x139 x140 x141 x142 x143 x144 x145 x146 x147 x148 x149 x150 x151 x152:Value)
  (HK:Hid (∀ (w':World) (s4 s5 s6 s26 s27 s28 s29 s30 s31 s32 s33 s34 s35 s36 s37 s38:Value),w'.ownsRow C 3 1 (.slice (some ⟨tg,0,none⟩) n n) n (((List.range n).map (toV first nk)).map iV)∧wc.grownBy w' (some tg)→K' ⟨#[x0,x1,x2,.pointer (some ⟨nb,0,none⟩),s4,s5,s6,x7,x8,x9,x10,x11,x12,x13,x14,x15,x16,x17,x18,x19,x20,x21,x22,x23,.slice (some ⟨g,0,none⟩) n n,.int .i64 (n:Int),s26,s27,s28,s29,s30,s31,s32,s33,s34,s35,s36,s37,s38,x39,x40,x41,x42,x43,x44,x45,x46,x47,x48,x49,x50,x51,x52,x53,x54,x55,x56,x57,x58,x59,x60,x61,x62,x63,x64,x65,x66,x67,x68,x69,x70,x71,x72,x73,x74,x75,x76,x77,x78,x79,x80,x81,x82,x83,x84,x85,x86,x87,x88,x89,x90,x91,x92,x93,x94,x95,x96,x97,x98,x99,x100,x101,x102,x103,x104,x105,x106,x107,x108,x109,x110,x111,x112,x113,x114,x115,x116,x117,x118,x119,x120,x121,x122,x123,x124,x125,x126,x127,x128,x129,x130,x131,x132,x133,x134,x135,x136,x137,x138,x139,x140,x141,x142,x143,x144,x145,x146,x147,x148,x149,x150,x151,x152],[]⟩ w')) :
  Code.wp Try.prog ((Try.f48.body.bind (blockAt 0)).getD .skip) (Exit.then K' Q0) ⟨#[x0,x1,x2,.pointer (some ⟨nb,0,none⟩),.int .i64 0,x5,x6,x7,x8,x9,x10,x11,x12,x13,x14,x15,x16,x17,x18,x19,x20,x21,x22,x23,.slice (some ⟨g,0,none⟩) n n,.int .i64 (n:Int),.int .i64 0,x27,x28,x29,x30,x31,x32,x33,x34,x35,x36,x37,x38,x39,x40,x41,x42,x43,x44,x45,x46,x47,x48,x49,x50,x51,x52,x53,x54,x55,x56,x57,x58,x59,x60,x61,x62,x63,x64,x65,x66,x67,x68,x69,x70,x71,x72,x73,x74,x75,x76,x77,x78,x79,x80,x81,x82,x83,x84,x85,x86,x87,x88,x89,x90,x91,x92,x93,x94,x95,x96,x97,x98,x99,x100,x101,x102,x103,x104,x105,x106,x107,x108,x109,x110,x111,x112,x113,x114,x115,x116,x117,x118,x119,x120,x121,x122,x123,x124,x125,x126,x127,x128,x129,x130,x131,x132,x133,x134,x135,x136,x137,x138,x139,x140,x141,x142,x143,x144,x145,x146,x147,x148,x149,x150,x151,x152],[]⟩ wc:=by
 conv=>arg 2;whnf
 go_wp2_with fail
 go_loopw [4,26] (fun t' i' w'=>∃ (k:Nat),k≤n∧i' = .int .i64 k∧t' = .int .i64 (toV first nk k:Nat)∧Hid (w'.ownsRow C 3 1 (.slice (some ⟨tg,0,none⟩) n n) n ((numsK first nk n k).map iV))∧Hid (wc.grownBy w' (some tg))) (fun _ i' _=>n - (intOf i').toNat)
 case atStart=>exact ⟨0,Nat.zero_le _,rfl,by rw [←HZ.out];rfl,by show World.ownsRow _ _ _ _ _ _ _;have:=HO.out;unfold numsK;simpa using this,grown_refl _ _⟩
 case round =>
  obtain ⟨k,hk,rfl,rfl,HOr,HG⟩:=hrel
  have q3R:=(HG.out.cell_far ⟨nb,0,none⟩ hnb (by simp;omega)).trans q3
  by_cases hlt:k<n
  ·obtain ⟨b,hb⟩:∃ b,nd[k]?=some b:=getElem_lt (by omega)
   have cB:wr.cell? ⟨g,k,none⟩=some (.bool b):=(HG.out.cell_far ⟨g,k,none⟩ hg (by simp;omega)).trans (HN.out k b hb)
   have HRN:Hid (toV first nk (k+1)=toV first nk k+(if b then 1 else 0)):=rank_next (by rw [←HND.out];exact hb)
   have HSE:=hidden (numsK_set first nk n k hlt)
   have hle:=HTV.out k
   generalize toV first nk k=tv at *
   have hltI:(k:Int)<(n:Int):=by omega
   have e3:IntKind.i64.wrap ((k:Int)+1)=(k:Int)+1:=wrapI _ (by omega) (by omega)
   have e4:IntKind.i64.wrap ((tv:Int)+1)=(tv:Int)+1:=wrapI _ (by omega) (by omega)
   have hcl:=HOr.out.cellAt k (by omega)
   have hfz:=HOr.out.frozenAt k
   have hold:∃ old,wr.cell? ⟨tg,k,none⟩=some old:=by
    rw [hcl]
    have hL:k<((numsK first nk n k).map iV).length:=by rw [List.length_map,numsK_len _ _ _ _ hk];exact hlt
    exact ⟨_,List.getElem?_eq_getElem hL⟩
   obtain ⟨old,hold⟩:=hold
   have HST:=hidden (HOr.out.stored k (.int .i64 (tv:Int)))
   clear hcl hb
   go_upto_region 7 with fail
   generalize hW5:World.setCell wr _ _=w5
   rw [hW5] at HST
   have HO5:Hid (w5.ownsRow C 3 1 (.slice (some ⟨tg,0,none⟩) n n) n ((numsK first nk n (k+1)).map iV)):=by
    have:=HST.out.1
    rw [show Value.int .i64 (tv:Int)=iV tv from rfl,←List.map_set,HSE.out] at this
    exact this
   have HG5:Hid (wc.grownBy w5 (some tg)):=grown_trans HG.out HST.out.2
   clear hW5 HST hold hfz HOr HG HSE q3R cB
   cases b
   ·go_wp2
    go_roundw
    case measure=>simp [intOf];omega
    case rel=>exact ⟨k+1,by omega,by simp,by rw [HRN.out];simp,HO5.out,HG5.out⟩
   ·go_wp2
    go_roundw
    case measure=>simp [intOf];omega
    case rel=>exact ⟨k+1,by omega,by simp,by rw [HRN.out];simp,HO5.out,HG5.out⟩
  ·have hge:¬ ((k:Int)<(n:Int)):=by omega
   have HEN:Hid (wr.ownsRow C 3 1 (.slice (some ⟨tg,0,none⟩) n n) n (((List.range n).map (toV first nk)).map iV)):=by
    have:=HOr.out
    rw [show k=n by omega,numsK_all] at this
    exact this
   clear HOr
   go_wp2
   exact HK.out _ _ _ _ _ _ _ _ _ _ _ _ _ _ _ _ _ ⟨HEN.out,HG.out⟩
end Go.Proofs.Ytlaljeobdddegaa
