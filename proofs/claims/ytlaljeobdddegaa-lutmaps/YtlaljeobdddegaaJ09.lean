import Derived.Test.YtlaljeobdddegaaJ08
import Derived.Deep.Cut
import Derived.Laws.OwnMore
import Derived.Test.YtlaljeobdddegaaJ05
namespace Go.Proofs.Ytlaljeobdddegaa
open Go.RowKit
set_option maxRecDepth 100000 in
set_option maxHeartbeats 4000000 in
theorem newGates_any (w:World) (first:Nat):Calls Try.prog 49 #[.int .i64 first] w fun e w'=>e = .returned (.pointer (some ⟨w.heap.size+1,0,none⟩))∧GtAt w.heap.size w' (w.heap.size+1) w.heap.size first [] (.slice none 0 0)∧Below w.heap.size w w'∧w'.heap.size=w.heap.size+2:=by
 have hmm:(Instr.makeMap 101 none).run Try.prog w = .ok (.map (some w.heap.size)) (w.alloc (.map #[] 0)):=by kernel_rfl
 go_enter Try.func49,Try.ntmps49
 go_wp2
 refine bodyPost_ret (v:=.pointer (some ⟨w.heap.size+1,0,none⟩)) (by simp [results,Try.results49,go_sem]) rfl ⟨rfl,?_,((Below.refl _ _).alloc (Nat.le_refl _) _).alloc (by simp) _,by simp⟩
 generalize hA:w.alloc (.map #[] 0)=wa
 have ha:wa.heap.size=w.heap.size+1:=by rw [←hA];simp
 have hc:∀ j,(wa.alloc (.cells #[.int .i64 (first:Int),.slice none 0 0,.map (some w.heap.size)] 103)).cell? ⟨w.heap.size+1,j,none⟩=(#[.int .i64 (first:Int),.slice none 0 0,.map (some w.heap.size)]:Array Value)[j]?:=fun j=>cell_new ha.symm
 refine ⟨(hc 0).trans rfl,(hc 1).trans rfl,(hc 2).trans rfl,World.ownsRow_nil _ _ _ _,⟨#[],0,?_,rfl,fun i d hd=>by simp at hd⟩,fun j=>?_,by simp [ha];omega,by simp [ha],by simp [ha];omega,by omega,(fun e=>by cases e),(fun e=>by cases e)⟩
 ·rw [heap_alloc_old _ _ (by omega),←hA]
  exact heap_new _ _
 ·have hb:(wa.alloc (.cells #[.int .i64 (first:Int),.slice none 0 0,.map (some w.heap.size)] 103)).heap[w.heap.size+1]?=some (.cells #[.int .i64 (first:Int),.slice none 0 0,.map (some w.heap.size)] 103):=by rw [←ha];exact heap_new _ _
  simp [World.frozen?,hb]
end Go.Proofs.Ytlaljeobdddegaa

namespace Go.Proofs.Ytlaljeobdddegaa
open Go.RowKit
def zH (x:Int):Value:=.int .i64 x
def blockAt (n:Nat):Code→Option Code
 | .block m c=>if m=n then some (.block m c) else blockAt n c
 | .seq a b=>match blockAt n a with
  | some c=>some c
  | none=>blockAt n b
 | .loop c=>blockAt n c
 | .scope c=>blockAt n c
 | .cond _ a b=>match blockAt n a with
  | some c=>some c
  | none=>blockAt n b
 | _=>none
set_option maxRecDepth 100000 in
set_option maxHeartbeats 8000000 in
theorem hsInit (wc:World) (C first n qb lb:Nat) (L0:List Int) (HL0:Hid (L0.length=n)) (q5:wc.cell? ⟨qb,0,none⟩=some (.slice (some ⟨lb,0,none⟩) n n)) (hqb:qb<wc.heap.size) (hne:qb≠lb) (hn:n≤60000) (hfn:first≤n) (HO:Hid (wc.ownsRow C 3 1 (.slice (some ⟨lb,0,none⟩) n n) n ((L0).map zH))) (K':Act→World→Prop) (Q0:Exit→Act→World→Prop) (x0 x1 x2 x3 x4 x6 x7 x8 x9 x10 x11 x12 x13 x14 x15 x16 x17 x18 x19 x20 x21 x24 x25 x26 x27 x28 x29 x30 x31 x32 x33 x34 x35 x36 x37 x38 x39 x40 x41 x42 x43 x44 x45 x46 x47 x48 x49 x50 x51 x52 x53 x54 x55 x56 x57 x58 x59 x60 x61 x62 x63 x64 x65 x66 x67 x68 x69 x70 x71 x72 x73 x74 x75 x76 x77 x78 x79 x80 x81 x82 x83 x84 x85 x86 x87 x88 x89 x90 x91 x92 x93 x94 x95 x96 x97 x98 x99 x100 x101 x102 x103 x104 x105 x106 x107 x108:Value)
  (HK:Hid (∀ (w':World) (s6 s23 s24 s25 s26 s27 s28 s29 s30 s31:Value),(∃ L:List Int,L.length=n∧(∀ v:Nat,v<first→L[v]?=some (2*(v:Int)))∧w'.ownsRow C 3 1 (.slice (some ⟨lb,0,none⟩) n n) n ((L).map zH)∧wc.grownBy w' (some lb))→K' ⟨#[x0,x1,x2,x3,x4,.pointer (some ⟨qb,0,none⟩),s6,x7,x8,x9,x10,x11,x12,x13,x14,x15,x16,x17,x18,x19,x20,x21,.int .i64 first,s23,s24,s25,s26,s27,s28,s29,s30,s31,x32,x33,x34,x35,x36,x37,x38,x39,x40,x41,x42,x43,x44,x45,x46,x47,x48,x49,x50,x51,x52,x53,x54,x55,x56,x57,x58,x59,x60,x61,x62,x63,x64,x65,x66,x67,x68,x69,x70,x71,x72,x73,x74,x75,x76,x77,x78,x79,x80,x81,x82,x83,x84,x85,x86,x87,x88,x89,x90,x91,x92,x93,x94,x95,x96,x97,x98,x99,x100,x101,x102,x103,x104,x105,x106,x107,x108],[]⟩ w')) :
  Code.wp Try.prog ((Try.f33.body.bind (blockAt 0)).getD .skip) (Exit.then K' Q0) ⟨#[x0,x1,x2,x3,x4,.pointer (some ⟨qb,0,none⟩),x6,x7,x8,x9,x10,x11,x12,x13,x14,x15,x16,x17,x18,x19,x20,x21,.int .i64 first,.int .i64 0,x24,x25,x26,x27,x28,x29,x30,x31,x32,x33,x34,x35,x36,x37,x38,x39,x40,x41,x42,x43,x44,x45,x46,x47,x48,x49,x50,x51,x52,x53,x54,x55,x56,x57,x58,x59,x60,x61,x62,x63,x64,x65,x66,x67,x68,x69,x70,x71,x72,x73,x74,x75,x76,x77,x78,x79,x80,x81,x82,x83,x84,x85,x86,x87,x88,x89,x90,x91,x92,x93,x94,x95,x96,x97,x98,x99,x100,x101,x102,x103,x104,x105,x106,x107,x108],[]⟩ wc:=by
 conv=>arg 2;whnf
 go_wp2_with fail
 go_loopw [23] (fun i' w'=>∃ (k:Nat) (L:List Int),k≤first∧i' = .int .i64 k∧Hid (L.length=n)∧Hid (∀ v:Nat,v<k→L[v]?=some (2*(v:Int)))∧Hid (w'.ownsRow C 3 1 (.slice (some ⟨lb,0,none⟩) n n) n ((L).map zH))∧Hid (wc.grownBy w' (some lb))) (fun i' _=>first - (intOf i').toNat)
 case atStart=>exact ⟨0,L0,Nat.zero_le _,rfl,HL0,fun v hv=>absurd hv (Nat.not_lt_zero _),HO,grown_refl _ _⟩
 case round =>
  obtain ⟨k,L,hk,rfl,HLn,HLv,HOr,HGr⟩:=hrel
  have q5R:=(HGr.out.cell_far ⟨qb,0,none⟩ hqb (by simp;omega)).trans q5
  by_cases hlt:k<first
  ·have hltI:(k:Int)<(first:Int):=by omega
   have hkn:(k:Int)<(n:Int):=by omega
   have e1:IntKind.i64.wrap (2*(k:Int))=2*(k:Int):=wrapI _ (by omega) (by omega)
   have e3:IntKind.i64.wrap ((k:Int)+1)=(k:Int)+1:=wrapI _ (by omega) (by omega)
   have hcl:=HOr.out.cellAt k (by omega)
   have hfz:=HOr.out.frozenAt k
   have hold:∃ old,wr.cell? ⟨lb,k,none⟩=some old:=by
    rw [hcl]
    have hL:k<(L.map zH).length:=by rw [List.length_map,HLn.out];omega
    exact ⟨_,List.getElem?_eq_getElem hL⟩
   obtain ⟨old,hold⟩:=hold
   have HST:=hidden (HOr.out.stored k (.int .i64 (2*(k:Int))))
   clear hcl
   go_wp2_with fail
   generalize hW5:World.setCell wr _ _=w5
   rw [hW5] at HST
   clear hW5 hold hfz
   go_wp2
   go_roundw
   case measure=>simp [intOf];omega
   case rel =>
    refine ⟨k+1,L.set k (2*(k:Int)),by omega,by simp,by show _=_;rw [List.length_set];exact HLn.out,?_,?_,grown_trans HGr.out HST.out.2⟩
    ·intro v hv
     by_cases e:v=k
     ·subst e
      rw [List.getElem?_set_self (by rw [HLn.out];omega)]
     ·rw [List.getElem?_set_ne (fun h=>e h.symm)]
      exact HLv.out v (by omega)
    ·have:=HST.out.1
     rw [show Value.int .i64 (2*(k:Int))=zH (2*(k:Int)) from rfl,←List.map_set] at this
     exact this
  ·have hge:¬ ((k:Int)<(first:Int)):=by omega
   have hke:k=first:=by omega
   subst hke
   go_wp2
   exact HK.out _ _ _ _ _ _ _ _ _ _ _ ⟨L,HLn.out,HLv.out,HOr.out,HGr.out⟩
end Go.Proofs.Ytlaljeobdddegaa

namespace Go.Proofs.Ytlaljeobdddegaa
open Go.RowKit
theorem take_snoc {α:Type} {l:List α} {k:Nat} {x:α} (h:l[k]?=some x):l.take (k+1)=l.take k++[x]:=by
 rw [List.take_add_one,h];rfl
theorem info_int1:(Try.prog.info? 3).map (fun i=>(i.zero,i.size,i.bytes))=some (some (.int .i64 0),1,8):=by kernel_rfl
theorem info_int:∃ i,Try.prog.info? 3=some i∧i.zero=some (.int .i64 0)∧i.size=1∧i.bytes=8:=by
 have h:=info_int1
 cases hi:Try.prog.info? 3 with
 | none=>rw [hi] at h;cases h
 | some i=>rw [hi] at h;simp at h;exact ⟨i,rfl,h.1,h.2.1,h.2.2⟩
theorem info_lat0:(Try.prog.info? 45).map (fun i=>(i.zero,i.size,i.bytes))=some (some (.agg #[.int .i64 0,.bool false]),2,16):=by kernel_rfl
theorem info_lat:∃ i,Try.prog.info? 45=some i∧i.zero=some (.agg #[.int .i64 0,.bool false])∧i.size=2∧i.bytes=16:=by
 have h:=info_lat0
 cases hi:Try.prog.info? 45 with
 | none=>rw [hi] at h;cases h
 | some i=>rw [hi] at h;simp at h;exact ⟨i,rfl,h.1,h.2.1,h.2.2⟩
theorem alH (w:World) (o:Obj) (row:Option Nat):w.grownBy (w.alloc o) row:=⟨rfl,rfl,rfl,by simp,fun k hk _=>heap_alloc_old w o hk⟩
theorem thruH {a b c d:World} {x:Nat} {row:Option Nat} (h1:a.grownBy b (some x)) (h2:b.grownBy c row) (h3:c.grownBy d (some x)) (hr:∀ y,row=some y→a.heap.size≤y):a.grownBy d (some x) :=
 ⟨h3.os.trans (h2.os.trans h1.os),h3.tape.trans (h2.tape.trans h1.tape),h3.output.trans (h2.output.trans h1.output),Nat.le_trans h1.size (Nat.le_trans h2.size h3.size),fun k hk hne=>by
  have s1:=h1.size
  have s2:=h2.size
  rw [h3.block k (by omega) hne,h2.block k (by omega) (fun e=>by have:=hr k e.symm;omega),h1.block k hk hne]⟩
theorem ren_lits (w:World) (nb tg n:Nat) (lits:List Int) (hbox:w.cell? ⟨nb,0,none⟩=some (.slice (some ⟨tg,0,none⟩) n n)) (hn:n≤60000) (hT:∀ v,v<n→w.cell? ⟨tg,v,none⟩=some (.int .i64 (lits.getD v 0))∧0≤lits.getD v 0∧lits.getD v 0≤4000000) (l:Int) (h0:0≤l) (h1:l<2*(n:Int)):Calls Try.prog 50 #[.int .i64 l,.pointer (some ⟨nb,0,none⟩)] w fun e w'=>e = .returned (.int .i64 (renL lits l))∧w'=w:=by
 obtain ⟨hc,hx0,hx1⟩:=hT (l / 2).toNat (by omega)
 exact ren_any w nb tg n (l / 2).toNat (lits.getD (l / 2).toNat 0) l hbox (by omega) h0 rfl (by omega) hc hx0 (by omega)
end Go.Proofs.Ytlaljeobdddegaa

namespace Go.Proofs.Ytlaljeobdddegaa
open Go.RowKit
set_option maxRecDepth 100000 in
set_option maxHeartbeats 8000000 in
theorem hsOuts (wc:World) (G:GrD) (lits:List Int) (B n nb hb tg:Nat) (a:Option Addr) (c:Nat) (q3:wc.cell? ⟨nb,0,none⟩=some (.slice (some ⟨tg,0,none⟩) n n)) (hnb:nb<wc.heap.size) (hnh:nb≠hb) (HR:Hid (RowAt B wc a 1 (G.outs.map intC))) (hBw:B≤wc.heap.size) (hBh:B≤hb) (hin:∀ z,z ∈ G.outs→0≤z∧z<2*(n:Int)) (hn:n≤60000) (hlen:G.outs.length≤60000) (hhb:hb<wc.heap.size) (htg:tg<wc.heap.size) (hth:tg≠hb) (HT:Hid (∀ v,v<n→wc.cell? ⟨tg,v,none⟩=some (.int .i64 (lits.getD v 0))∧0≤lits.getD v 0∧lits.getD v 0≤4000000)) (hq:wc.cell? ⟨hb,3,none⟩=some (.slice none 0 0)) (hfr:∀ j,wc.frozen? ⟨hb,j,none⟩=false) (K':Act→World→Prop) (Q0:Exit→Act→World→Prop) (x0 x1 x2 x3 x4 x5 x6 x8 x9 x11 x12 x13 x14 x15 x16 x17 x18 x19 x20 x21 x22 x23 x24 x25 x26 x27 x28 x29 x30 x31 x32 x33 x34 x35 x36 x37 x38 x39 x40 x41 x42 x43 x44 x45 x46 x47 x48 x49 x50 x51 x52 x53 x54 x55 x56 x57 x58 x59 x60 x61 x62 x63 x64 x65 x66 x67 x68 x69 x70 x71 x72 x73 x74 x75 x76 x77 x78 x79 x80 x81 x82 x83 x84 x85 x86 x87 x88 x89 x90 x91 x92 x96 x97 x98 x99 x100 x101 x102 x103 x104 x105 x106 x107 x108:Value)
  (HK:Hid (∀ (w':World) (s14 s95 s96 s97 s98 s99 s100 s101 s102 s103 s104 s105 s106 s107:Value),(∃ u,w'.cell? ⟨hb,3,none⟩=some u∧w'.ownsRow wc.heap.size 3 1 u G.outs.length ((G.outs.map (renL lits)).map zH))∧wc.grownBy w' (some hb)∧(∀ j,j≠3→w'.cell? ⟨hb,j,none⟩=wc.cell? ⟨hb,j,none⟩)∧(∀ j,w'.frozen? ⟨hb,j,none⟩=false)→K' ⟨#[x0,x1,x2,x3,x4,x5,x6,.func (.func 50) #[] #[.pointer (some ⟨nb,0,none⟩)],x8,x9,.pointer (some ⟨hb,0,none⟩),x11,x12,x13,s14,x15,x16,x17,x18,x19,x20,x21,x22,x23,x24,x25,x26,x27,x28,x29,x30,x31,x32,x33,x34,x35,x36,x37,x38,x39,x40,x41,x42,x43,x44,x45,x46,x47,x48,x49,x50,x51,x52,x53,x54,x55,x56,x57,x58,x59,x60,x61,x62,x63,x64,x65,x66,x67,x68,x69,x70,x71,x72,x73,x74,x75,x76,x77,x78,x79,x80,x81,x82,x83,x84,x85,x86,x87,x88,x89,x90,x91,x92,.slice a G.outs.length c,.int .i64 (G.outs.length:Int),s95,s96,s97,s98,s99,s100,s101,s102,s103,s104,s105,s106,s107,x108],[]⟩ w')) :
  Code.wp Try.prog ((Try.f33.body.bind (blockAt 6)).getD .skip) (Exit.then K' Q0) ⟨#[x0,x1,x2,x3,x4,x5,x6,.func (.func 50) #[] #[.pointer (some ⟨nb,0,none⟩)],x8,x9,.pointer (some ⟨hb,0,none⟩),x11,x12,x13,x14,x15,x16,x17,x18,x19,x20,x21,x22,x23,x24,x25,x26,x27,x28,x29,x30,x31,x32,x33,x34,x35,x36,x37,x38,x39,x40,x41,x42,x43,x44,x45,x46,x47,x48,x49,x50,x51,x52,x53,x54,x55,x56,x57,x58,x59,x60,x61,x62,x63,x64,x65,x66,x67,x68,x69,x70,x71,x72,x73,x74,x75,x76,x77,x78,x79,x80,x81,x82,x83,x84,x85,x86,x87,x88,x89,x90,x91,x92,.slice a G.outs.length c,.int .i64 (G.outs.length:Int),.int .i64 0,x96,x97,x98,x99,x100,x101,x102,x103,x104,x105,x106,x107,x108],[]⟩ wc:=by
 conv=>arg 2;whnf
 obtain ⟨i3,hi3,hz3,hs3,hb3⟩:=info_int
 have HI2:=hidden hi3
 have HZ2:=hidden hz3
 have HS2:=hidden hs3
 have HBY2:=hidden hb3
 clear hi3 hz3 hs3 hb3
 go_wp2_with fail
 go_loopw [95] (fun i' w'=>∃ (k:Nat) (u:Value),k≤G.outs.length∧i' = .int .i64 k∧Hid (w'.cell? ⟨hb,3,none⟩=some u)∧Hid (w'.ownsRow wc.heap.size 3 1 u k (((G.outs.take k).map (renL lits)).map zH))∧Hid (wc.grownBy w' (some hb))∧Hid (∀ j,w'.frozen? ⟨hb,j,none⟩=false)∧Hid (∀ j,j≠3→w'.cell? ⟨hb,j,none⟩=wc.cell? ⟨hb,j,none⟩)) (fun i' _=>G.outs.length - (intOf i').toNat)
 case atStart=>exact ⟨0,_,Nat.zero_le _,rfl,hq,World.ownsRow_nil _ _ _ _,grown_refl _ _,hfr,fun _ _=>rfl⟩
 case round =>
  obtain ⟨k,u,hk,rfl,HU,HO,HG,HF,HJ⟩:=hrel
  by_cases hlt:k<G.outs.length
  ·obtain ⟨z,hz⟩:∃ z,G.outs[k]?=some z:=getElem_lt hlt
   obtain ⟨rb,ro,ea,hrb,hrc⟩:=HR.out.intR hz
   subst ea
   have hrw:rb<wc.heap.size:=Nat.lt_of_lt_of_le hrb hBw
   have c1:wr.cell? ⟨rb,ro+k,none⟩=some (.int .i64 z):=(HG.out.cell_far _ hrw (by simp;omega)).trans hrc
   have hzi:=hin z (List.mem_of_getElem? hz)
   have hsz:=HG.out.size
   have RN:Hid (Calls Try.prog 50 #[.int .i64 z,.pointer (some ⟨nb,0,none⟩)] wr.drew fun e w'=>e = .returned (.int .i64 (renL lits z))∧w'=wr.drew) :=
    ren_lits wr.drew nb tg n lits ((HG.out.cell_far ⟨nb,0,none⟩ hnb (by simp;omega)).trans q3) hn (fun v hv=>⟨(HG.out.cell_far ⟨tg,v,none⟩ htg (by simp;omega)).trans (HT.out v hv).1,(HT.out v hv).2⟩) z hzi.1 hzi.2
   have HNX:Hid (((G.outs.take (k+1)).map (renL lits)).map zH=((G.outs.take k).map (renL lits)).map zH++[.int .i64 (renL lits z)]):=by
    show _=_
    rw [take_snoc hz,List.map_append,List.map_append];rfl
   generalize renL lits z=lt at *
   have hltI:(k:Int)<(G.outs.length:Int):=by omega
   have e3:IntKind.i64.wrap ((k:Int)+1)=(k:Int)+1:=wrapI _ (by omega) (by omega)
   have hm1:k+1≤maxLen:=by simp only [maxLen];omega
   have hm2:(k+1)*8≤140737488355328:=by omega
   have hm3:wc.heap.size≤((wr.alloc (.cells #[.int .i64 lt] 3)).drew).heap.size:=by simp;omega
   have hu:=HU.out
   clear hrc hz hzi
   have KP:Hid (∀ w',wr.grownBy w' u.ownBlock→w'.cell? ⟨hb,3,none⟩=some u):=fun w' hg=>(hg.cell_far ⟨hb,3,none⟩ (by show hb<_;omega) (fun e=>by have:=(HO.out.lt hb e.symm).1;omega)).trans hu
   have KF:Hid (∀ w',wr.grownBy w' u.ownBlock→∀ j,w'.frozen? ⟨hb,j,none⟩=false):=fun w' hg j=>(hg.frozen_far ⟨hb,j,none⟩ (by show hb<_;omega) (fun e=>by have:=(HO.out.lt hb e.symm).1;omega)).trans (HF.out j)
   have huA:(wr.alloc (.cells #[.int .i64 lt] 3)).cell? ⟨hb,3,none⟩=some u:=KP.out _ (alH _ _ _)
   go_upto_region 24 with fail
   refine wp_region_noPanic ?_
   refine wp_region_held_drew (S:=(fun _=>True)) (by kernel_rfl) trivial (fun hHeld=>?_)
   refine tk 0 ?_
   refine tk 2 ?_
   refine tk 3 ?_
   refine wpAnyH_ready (rs:=[1,4]) (by kernel_rfl) (by simp) ?_
   refine AllReadyH.cons (o:=_) rfl (fun K hK=>?_) ?_
   ·(try simp only [gA,gB,gC])
    go_simp
    refine hK.out _ _ trivial (fun hHeld1=>?_)
    clear hK K
    (try simp only [Act.put]);(try simp only [List.setIfInBounds_toArray]);(try simp only [List.set_cons_zero,List.set_cons_succ])
    refine rd 4 fun K hK=>?_
    (try simp only [gA,gB,gC])
    go_simp
    go_at_call 50
    refine RN.out.mono ?_
    rintro e w2 ⟨rfl,rfl⟩
    go_wp2_with fail
    refine hK.out _ _ trivial (fun hHeld4=>?_)
    clear hK K
    (try simp only [Act.put]);(try simp only [List.setIfInBounds_toArray]);(try simp only [List.set_cons_zero,List.set_cons_succ])
    refine rd 5 fun K hK=>?_
    (try simp only [gA,gB,gC])
    go_simp
    refine hK.out _ _ trivial (fun hHeld5=>?_)
    clear hK K
    (try simp only [Act.put]);(try simp only [List.setIfInBounds_toArray]);(try simp only [List.set_cons_zero,List.set_cons_succ])
    refine rd 6 fun K hK=>?_
    refine step_append_lies _ rfl (.tmp 100) (.tmp 104) 24 rfl wc.heap.size 3 i3 _ 1 8 Try.underlying24 HI2.out HZ2.out HS2.out HBY2.out rfl (by decide) u k _ rfl (HO.out.alloc _).drew ⟨wr.heap.size,0,none⟩ 1 1 [.int .i64 lt] rfl rfl (World.news_of_block (heap_new _ _)) (by simp [Value.oneCell']) (by decide) hm1 hm2 hm3 _ rfl ?_
    intro g cap w5 hown hgrow hat hlt5
    have HG5:=grown_trans (adH _ _ _) hgrow
    have hc5:=KP.out w5 HG5
    have hf5:=KF.out w5 HG5 3
    refine hK.out _ _ trivial (fun hHeldA=>?_)
    clear hK K
    (try simp only [Act.put]);(try simp only [List.setIfInBounds_toArray]);(try simp only [List.set_cons_zero,List.set_cons_succ])
    refine tk 7 ?_
    refine rd 8 fun K hK=>?_
    (try simp only [gA,gB,gC])
    go_simp
    refine hK.out _ _ trivial (fun hHeld8=>?_)
    clear hK K
    (try simp only [Act.put]);(try simp only [List.setIfInBounds_toArray]);(try simp only [List.set_cons_zero,List.set_cons_succ])
    refine wpAnyH_done (by kernel_rfl) ?_ _
    refine NoPanic.normal ?_
    generalize hW6:World.setCell w5 _ _=w6
    have HU6:Hid (w6.cell? ⟨hb,3,none⟩=some (.slice (some ⟨g,0,none⟩) (k+1) cap)):=by rw [←hW6];exact World.cell?_setCell_same (h:=hc5) ..
    have HF6:Hid (∀ j,w6.frozen? ⟨hb,j,none⟩=false):=by rw [←hW6];exact fun j=>(World.frozen?_setCell _ _ _ _).trans (KF.out w5 HG5 j)
    have hgs:w5.grownBy w6 (some hb):=by rw [←hW6];exact setH _ _ _ _
    have hgh:g≠hb:=fun e=>by
     rcases hat with h | h
     ·have:=(HO.out.lt g h).1;omega
     ·simp at h;omega
    have HO6:Hid (w6.ownsRow wc.heap.size 3 1 (.slice (some ⟨g,0,none⟩) (k+1) cap) (k+1) (((G.outs.take (k+1)).map (renL lits)).map zH)):=by
     have:=hown.kept hgs (.inr (fun e=>hgh (by cases e;rfl)))
     rw [HNX.out];exact this
    have HG6:Hid (wc.grownBy w6 (some hb)):=thruH HG.out HG5 hgs (fun x hx=>(HO.out.lt x hx).1)
    have HJ6:Hid (∀ j,j≠3→w6.cell? ⟨hb,j,none⟩=wc.cell? ⟨hb,j,none⟩):=fun j hj=>by
     rw [←hW6]
     refine (World.cell?_setCell_other (h:=fun e=>hj (by cases e;rfl)) ..).trans ?_
     exact (HG5.cell_far ⟨hb,j,none⟩ (by show hb<_;omega) (fun e=>by have:=(HO.out.lt hb e.symm).1;omega)).trans (HJ.out j hj)
    clear hW6 hgs hgh hown hgrow hat hlt5 HG5 hc5 hf5 HO HG HJ HU HF KP KF HNX hu huA RN
    go_wp2
    go_roundw
    case measure=>simp [intOf];omega
    case rel=>exact ⟨k+1,_,by omega,by simp,HU6.out,HO6.out,HG6.out,HF6.out,HJ6.out⟩
   refine AllReadyH.cons (o:=_) rfl (fun K hK=>?_) AllReadyH.nil
   (try simp only [gA,gB,gC])
   go_simp
   go_at_call 50
   refine RN.out.mono ?_
   rintro e w2 ⟨rfl,rfl⟩
   go_wp2_with fail
   refine hK.out _ _ trivial (fun hHeld4=>?_)
   clear hK K
   (try simp only [Act.put]);(try simp only [List.setIfInBounds_toArray]);(try simp only [List.set_cons_zero,List.set_cons_succ])
   refine wpAnyH_ready (rs:=[1,5]) (by kernel_rfl) (by simp) ?_
   refine AllReadyH.cons (o:=_) rfl (fun K hK=>?_) ?_
   ·(try simp only [gA,gB,gC])
    go_simp
    refine hK.out _ _ trivial (fun hHeld1=>?_)
    clear hK K
    (try simp only [Act.put]);(try simp only [List.setIfInBounds_toArray]);(try simp only [List.set_cons_zero,List.set_cons_succ])
    refine rd 5 fun K hK=>?_
    (try simp only [gA,gB,gC])
    go_simp
    refine hK.out _ _ trivial (fun hHeld5=>?_)
    clear hK K
    (try simp only [Act.put]);(try simp only [List.setIfInBounds_toArray]);(try simp only [List.set_cons_zero,List.set_cons_succ])
    refine rd 6 fun K hK=>?_
    refine step_append_lies _ rfl (.tmp 100) (.tmp 104) 24 rfl wc.heap.size 3 i3 _ 1 8 Try.underlying24 HI2.out HZ2.out HS2.out HBY2.out rfl (by decide) u k _ rfl (HO.out.alloc _).drew ⟨wr.heap.size,0,none⟩ 1 1 [.int .i64 lt] rfl rfl (World.news_of_block (heap_new _ _)) (by simp [Value.oneCell']) (by decide) hm1 hm2 hm3 _ rfl ?_
    intro g cap w5 hown hgrow hat hlt5
    have HG5:=grown_trans (adH _ _ _) hgrow
    have hc5:=KP.out w5 HG5
    have hf5:=KF.out w5 HG5 3
    refine hK.out _ _ trivial (fun hHeldA=>?_)
    clear hK K
    (try simp only [Act.put]);(try simp only [List.setIfInBounds_toArray]);(try simp only [List.set_cons_zero,List.set_cons_succ])
    refine tk 7 ?_
    refine rd 8 fun K hK=>?_
    (try simp only [gA,gB,gC])
    go_simp
    refine hK.out _ _ trivial (fun hHeld8=>?_)
    clear hK K
    (try simp only [Act.put]);(try simp only [List.setIfInBounds_toArray]);(try simp only [List.set_cons_zero,List.set_cons_succ])
    refine wpAnyH_done (by kernel_rfl) ?_ _
    refine NoPanic.normal ?_
    generalize hW6:World.setCell w5 _ _=w6
    have HU6:Hid (w6.cell? ⟨hb,3,none⟩=some (.slice (some ⟨g,0,none⟩) (k+1) cap)):=by rw [←hW6];exact World.cell?_setCell_same (h:=hc5) ..
    have HF6:Hid (∀ j,w6.frozen? ⟨hb,j,none⟩=false):=by rw [←hW6];exact fun j=>(World.frozen?_setCell _ _ _ _).trans (KF.out w5 HG5 j)
    have hgs:w5.grownBy w6 (some hb):=by rw [←hW6];exact setH _ _ _ _
    have hgh:g≠hb:=fun e=>by
     rcases hat with h | h
     ·have:=(HO.out.lt g h).1;omega
     ·simp at h;omega
    have HO6:Hid (w6.ownsRow wc.heap.size 3 1 (.slice (some ⟨g,0,none⟩) (k+1) cap) (k+1) (((G.outs.take (k+1)).map (renL lits)).map zH)):=by
     have:=hown.kept hgs (.inr (fun e=>hgh (by cases e;rfl)))
     rw [HNX.out];exact this
    have HG6:Hid (wc.grownBy w6 (some hb)):=thruH HG.out HG5 hgs (fun x hx=>(HO.out.lt x hx).1)
    have HJ6:Hid (∀ j,j≠3→w6.cell? ⟨hb,j,none⟩=wc.cell? ⟨hb,j,none⟩):=fun j hj=>by
     rw [←hW6]
     refine (World.cell?_setCell_other (h:=fun e=>hj (by cases e;rfl)) ..).trans ?_
     exact (HG5.cell_far ⟨hb,j,none⟩ (by show hb<_;omega) (fun e=>by have:=(HO.out.lt hb e.symm).1;omega)).trans (HJ.out j hj)
    clear hW6 hgs hgh hown hgrow hat hlt5 HG5 hc5 hf5 HO HG HJ HU HF KP KF HNX hu huA RN
    go_wp2
    go_roundw
    case measure=>simp [intOf];omega
    case rel=>exact ⟨k+1,_,by omega,by simp,HU6.out,HO6.out,HG6.out,HF6.out,HJ6.out⟩
   refine AllReadyH.cons (o:=_) rfl (fun K hK=>?_) AllReadyH.nil
   (try simp only [gA,gB,gC])
   go_simp
   refine hK.out _ _ trivial (fun hHeld5=>?_)
   clear hK K
   (try simp only [Act.put]);(try simp only [List.setIfInBounds_toArray]);(try simp only [List.set_cons_zero,List.set_cons_succ])
   refine rd 1 fun K hK=>?_
   (try simp only [gA,gB,gC])
   go_simp
   refine hK.out _ _ trivial (fun hHeld1=>?_)
   clear hK K
   (try simp only [Act.put]);(try simp only [List.setIfInBounds_toArray]);(try simp only [List.set_cons_zero,List.set_cons_succ])
   refine rd 6 fun K hK=>?_
   refine step_append_lies _ rfl (.tmp 100) (.tmp 104) 24 rfl wc.heap.size 3 i3 _ 1 8 Try.underlying24 HI2.out HZ2.out HS2.out HBY2.out rfl (by decide) u k _ rfl (HO.out.alloc _).drew ⟨wr.heap.size,0,none⟩ 1 1 [.int .i64 lt] rfl rfl (World.news_of_block (heap_new _ _)) (by simp [Value.oneCell']) (by decide) hm1 hm2 hm3 _ rfl ?_
   intro g cap w5 hown hgrow hat hlt5
   have HG5:=grown_trans (adH _ _ _) hgrow
   have hc5:=KP.out w5 HG5
   have hf5:=KF.out w5 HG5 3
   refine hK.out _ _ trivial (fun hHeldA=>?_)
   clear hK K
   (try simp only [Act.put]);(try simp only [List.setIfInBounds_toArray]);(try simp only [List.set_cons_zero,List.set_cons_succ])
   refine tk 7 ?_
   refine rd 8 fun K hK=>?_
   (try simp only [gA,gB,gC])
   go_simp
   refine hK.out _ _ trivial (fun hHeld8=>?_)
   clear hK K
   (try simp only [Act.put]);(try simp only [List.setIfInBounds_toArray]);(try simp only [List.set_cons_zero,List.set_cons_succ])
   refine wpAnyH_done (by kernel_rfl) ?_ _
   refine NoPanic.normal ?_
   generalize hW6:World.setCell w5 _ _=w6
   have HU6:Hid (w6.cell? ⟨hb,3,none⟩=some (.slice (some ⟨g,0,none⟩) (k+1) cap)):=by rw [←hW6];exact World.cell?_setCell_same (h:=hc5) ..
   have HF6:Hid (∀ j,w6.frozen? ⟨hb,j,none⟩=false):=by rw [←hW6];exact fun j=>(World.frozen?_setCell _ _ _ _).trans (KF.out w5 HG5 j)
   have hgs:w5.grownBy w6 (some hb):=by rw [←hW6];exact setH _ _ _ _
   have hgh:g≠hb:=fun e=>by
    rcases hat with h | h
    ·have:=(HO.out.lt g h).1;omega
    ·simp at h;omega
   have HO6:Hid (w6.ownsRow wc.heap.size 3 1 (.slice (some ⟨g,0,none⟩) (k+1) cap) (k+1) (((G.outs.take (k+1)).map (renL lits)).map zH)):=by
    have:=hown.kept hgs (.inr (fun e=>hgh (by cases e;rfl)))
    rw [HNX.out];exact this
   have HG6:Hid (wc.grownBy w6 (some hb)):=thruH HG.out HG5 hgs (fun x hx=>(HO.out.lt x hx).1)
   have HJ6:Hid (∀ j,j≠3→w6.cell? ⟨hb,j,none⟩=wc.cell? ⟨hb,j,none⟩):=fun j hj=>by
    rw [←hW6]
    refine (World.cell?_setCell_other (h:=fun e=>hj (by cases e;rfl)) ..).trans ?_
    exact (HG5.cell_far ⟨hb,j,none⟩ (by show hb<_;omega) (fun e=>by have:=(HO.out.lt hb e.symm).1;omega)).trans (HJ.out j hj)
   clear hW6 hgs hgh hown hgrow hat hlt5 HG5 hc5 hf5 HO HG HJ HU HF KP KF HNX hu huA RN
   go_wp2
   go_roundw
   case measure=>simp [intOf];omega
   case rel=>exact ⟨k+1,_,by omega,by simp,HU6.out,HO6.out,HG6.out,HF6.out,HJ6.out⟩
  ·have hge:¬ ((k:Int)<(G.outs.length:Int)):=by omega
   have HEN:Hid (wr.ownsRow wc.heap.size 3 1 u G.outs.length ((G.outs.map (renL lits)).map zH)):=by
    have:=HO.out
    rw [List.take_of_length_le (by omega),show k=G.outs.length by omega] at this
    exact this
   clear HO
   go_wp2
   exact HK.out _ _ _ _ _ _ _ _ _ _ _ _ _ _ _ ⟨⟨u,HU.out,HEN.out⟩,HG.out,HJ.out,HF.out⟩
end Go.Proofs.Ytlaljeobdddegaa
