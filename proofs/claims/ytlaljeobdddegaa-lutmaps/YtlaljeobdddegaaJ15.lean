import Derived.Test.YtlaljeobdddegaaJ05
import Derived.Test.YtlaljeobdddegaaJ14
namespace Go.Proofs.Ytlaljeobdddegaa
open Go.RowKit
set_option maxRecDepth 100000 in
set_option maxHeartbeats 8000000 in
theorem kpOuts (wc:World) (G:GrD) (first:Nat) (nk:List Bool) (B n nb hb tg tc:Nat) (a:Option Addr) (c:Nat) (q3:wc.cell? ⟨nb,0,none⟩=some (.slice (some ⟨tg,0,none⟩) n tc)) (hnb:nb<wc.heap.size) (hnh:nb≠hb) (HR:Hid (RowAt B wc a 1 (G.outs.map intC))) (hBw:B≤wc.heap.size) (hBh:B≤hb) (hin:∀ z,z ∈ G.outs→0≤z∧z<2*(n:Int)) (hn:n≤60000) (hlen:G.outs.length≤60000) (hhb:hb<wc.heap.size) (htg:tg<wc.heap.size) (hth:tg≠hb) (HT:Hid (∀ v,v<n→wc.cell? ⟨tg,v,none⟩=some (.int .i64 (toV first nk v:Nat))∧toV first nk v≤60000)) (hq:wc.cell? ⟨hb,3,none⟩=some (.slice none 0 0)) (hfr:∀ j,wc.frozen? ⟨hb,j,none⟩=false) (K':Act→World→Prop) (Q0:Exit→Act→World→Prop) (x0 x1 x2 x3 x4 x5 x6 x9 x10 x11 x12 x13 x14 x15 x16 x17 x18 x19 x20 x21 x22 x23 x24 x25 x26 x27 x28 x29 x30 x31 x32 x33 x34 x35 x36 x37 x38 x39 x40 x41 x42 x43 x44 x45 x46 x47 x48 x49 x50 x51 x52 x53 x54 x55 x56 x57 x58 x59 x60 x61 x62 x63 x64 x65 x66 x67 x68 x69 x70 x71 x72 x73 x74 x75 x76 x77 x78 x79 x80 x81 x82 x83 x84 x85 x86 x87 x88 x89 x90 x91 x92 x93 x94 x95 x96 x97 x98 x99 x100 x101 x102 x103 x104 x105 x106 x107 x108 x109 x110 x111 x112 x113 x114 x115 x116 x117 x118 x119 x120 x121 x122 x123 x124 x125 x126 x127 x128 x129 x130 x131 x132 x133 x134 x135 x136 x140 x141 x142 x143 x144 x145 x146 x147 x148 x149 x150 x151 x152:Value)
  (HK:Hid (∀ (w':World) (s14 s139 s140 s141 s142 s143 s144 s145 s146 s147 s148 s149 s150 s151:Value),(∃ u,w'.cell? ⟨hb,3,none⟩=some u∧w'.ownsRow wc.heap.size 3 1 u G.outs.length ((G.outs.map (litC first nk)).map intV))∧wc.grownBy w' (some hb)∧(∀ j,j≠3→w'.cell? ⟨hb,j,none⟩=wc.cell? ⟨hb,j,none⟩)∧(∀ j,w'.frozen? ⟨hb,j,none⟩=false)→K' ⟨#[x0,x1,x2,x3,x4,x5,x6,.func (.func 64) #[] #[.pointer (some ⟨nb,0,none⟩)],.pointer (some ⟨hb,0,none⟩),x9,x10,x11,x12,x13,s14,x15,x16,x17,x18,x19,x20,x21,x22,x23,x24,x25,x26,x27,x28,x29,x30,x31,x32,x33,x34,x35,x36,x37,x38,x39,x40,x41,x42,x43,x44,x45,x46,x47,x48,x49,x50,x51,x52,x53,x54,x55,x56,x57,x58,x59,x60,x61,x62,x63,x64,x65,x66,x67,x68,x69,x70,x71,x72,x73,x74,x75,x76,x77,x78,x79,x80,x81,x82,x83,x84,x85,x86,x87,x88,x89,x90,x91,x92,x93,x94,x95,x96,x97,x98,x99,x100,x101,x102,x103,x104,x105,x106,x107,x108,x109,x110,x111,x112,x113,x114,x115,x116,x117,x118,x119,x120,x121,x122,x123,x124,x125,x126,x127,x128,x129,x130,x131,x132,x133,x134,x135,x136,.slice a G.outs.length c,.int .i64 (G.outs.length:Int),s139,s140,s141,s142,s143,s144,s145,s146,s147,s148,s149,s150,s151,x152],[]⟩ w')) :
  Code.wp Try.prog ((Try.f48.body.bind (blockAt 6)).getD .skip) (Exit.then K' Q0) ⟨#[x0,x1,x2,x3,x4,x5,x6,.func (.func 64) #[] #[.pointer (some ⟨nb,0,none⟩)],.pointer (some ⟨hb,0,none⟩),x9,x10,x11,x12,x13,x14,x15,x16,x17,x18,x19,x20,x21,x22,x23,x24,x25,x26,x27,x28,x29,x30,x31,x32,x33,x34,x35,x36,x37,x38,x39,x40,x41,x42,x43,x44,x45,x46,x47,x48,x49,x50,x51,x52,x53,x54,x55,x56,x57,x58,x59,x60,x61,x62,x63,x64,x65,x66,x67,x68,x69,x70,x71,x72,x73,x74,x75,x76,x77,x78,x79,x80,x81,x82,x83,x84,x85,x86,x87,x88,x89,x90,x91,x92,x93,x94,x95,x96,x97,x98,x99,x100,x101,x102,x103,x104,x105,x106,x107,x108,x109,x110,x111,x112,x113,x114,x115,x116,x117,x118,x119,x120,x121,x122,x123,x124,x125,x126,x127,x128,x129,x130,x131,x132,x133,x134,x135,x136,.slice a G.outs.length c,.int .i64 (G.outs.length:Int),.int .i64 0,x140,x141,x142,x143,x144,x145,x146,x147,x148,x149,x150,x151,x152],[]⟩ wc:=by
 conv=>arg 2;whnf
 obtain ⟨i3,hi3,hz3,hs3,hb3⟩:=info_int
 have HI2:=hidden hi3
 have HZ2:=hidden hz3
 have HS2:=hidden hs3
 have HBY2:=hidden hb3
 clear hi3 hz3 hs3 hb3
 go_wp2_with fail
 go_loopw [139] (fun i' w'=>∃ (k:Nat) (u:Value),k≤G.outs.length∧i' = .int .i64 k∧Hid (w'.cell? ⟨hb,3,none⟩=some u)∧Hid (w'.ownsRow wc.heap.size 3 1 u k (((G.outs.take k).map (litC first nk)).map intV))∧Hid (wc.grownBy w' (some hb))∧Hid (∀ j,w'.frozen? ⟨hb,j,none⟩=false)∧Hid (∀ j,j≠3→w'.cell? ⟨hb,j,none⟩=wc.cell? ⟨hb,j,none⟩)) (fun i' _=>G.outs.length - (intOf i').toNat)
 case atStart=>exact ⟨0,_,Nat.zero_le _,rfl,hq,World.ownsRow_nil _ _ _ _,grown_refl _ _,hfr,fun _ _=>rfl⟩
 case round =>
  obtain ⟨k,u,hk,rfl,HU,HO,HG,HF,HJ⟩:=hrel
  by_cases hlt:k<G.outs.length
  ·obtain ⟨z,hz⟩:∃ z,G.outs[k]?=some z:=getElem_lt hlt
   obtain ⟨rb,ro,ea,hrb,hrc⟩:=HR.out.intR hz
   subst ea
   have hrw:rb<wc.heap.size:=Nat.lt_of_lt_of_le hrb hBw
   have c1:wr.cell? ⟨rb,ro+k,none⟩=some (.int .i64 z):=(HG.out.cell_far _ hrw (by simp;omega)).trans hrc
   have hzi:=hin z (List.mem_of_getElem? hz)
   have hsz:=HG.out.size
   have RN:Hid (Calls Try.prog 64 #[.int .i64 z,.pointer (some ⟨nb,0,none⟩)] wr.drew fun e w'=>e = .returned (.int .i64 (litC first nk z))∧w'=wr.drew) :=
    renum_any wr.drew nb tg tc n first nk ((HG.out.cell_far ⟨nb,0,none⟩ hnb (by simp;omega)).trans q3) hn (fun v hv=>⟨(HG.out.cell_far ⟨tg,v,none⟩ htg (by simp;omega)).trans (HT.out v hv).1,(HT.out v hv).2⟩) z hzi.1 hzi.2
   have HNX:Hid (((G.outs.take (k+1)).map (litC first nk)).map intV=((G.outs.take k).map (litC first nk)).map intV++[.int .i64 (litC first nk z)]):=by
    show _=_
    rw [take_snoc hz,List.map_append,List.map_append];rfl
   generalize litC first nk z=lt at *
   have hltI:(k:Int)<(G.outs.length:Int):=by omega
   have e3:IntKind.i64.wrap ((k:Int)+1)=(k:Int)+1:=wrapI _ (by omega) (by omega)
   have hm1:k+1≤maxLen:=by simp only [maxLen];omega
   have hm2:(k+1)*8≤140737488355328:=by omega
   have hm3:wc.heap.size≤((wr.alloc (.cells #[.int .i64 lt] 3)).drew).heap.size:=by simp;omega
   have hu:=HU.out
   clear hrc hz hzi
   have KP:Hid (∀ w',wr.grownBy w' u.ownBlock→w'.cell? ⟨hb,3,none⟩=some u):=fun w' hg=>(hg.cell_far ⟨hb,3,none⟩ (by show hb<_;omega) (fun e=>by have:=(HO.out.lt hb e.symm).1;omega)).trans hu
   have KF:Hid (∀ w',wr.grownBy w' u.ownBlock→∀ j,w'.frozen? ⟨hb,j,none⟩=false):=fun w' hg j=>(hg.frozen_far ⟨hb,j,none⟩ (by show hb<_;omega) (fun e=>by have:=(HO.out.lt hb e.symm).1;omega)).trans (HF.out j)
   have huA:(wr.alloc (.cells #[.int .i64 lt] 3)).cell? ⟨hb,3,none⟩=some u:=KP.out _ (grown_al _ _ _)
   go_upto_region 27 with fail
   refine wp_region_noPanic ?_
   refine wp_region_held_drew (S:=(fun _=>True)) (by kernel_rfl) trivial (fun hHeld=>?_)
   refine tk 0 ?_
   refine tk 2 ?_
   refine tk 3 ?_
   refine wpAnyH_ready (rs:=[1,4]) (by kernel_rfl) (by simp) ?_
   refine AllReadyH.cons (o:=_) rfl (fun K hK=>?_) ?_
   ·(try simp only [gA,gB,gC])
    go_simp
    refine hK.out _ _ trivial (fun hHeld1=>?_)
    clear hK K
    (try simp only [Act.put]);(try simp only [List.setIfInBounds_toArray]);(try simp only [List.set_cons_zero,List.set_cons_succ])
    refine rd 4 fun K hK=>?_
    (try simp only [gA,gB,gC])
    go_simp
    go_at_call 64
    refine RN.out.mono ?_
    rintro e w2 ⟨rfl,rfl⟩
    go_wp2_with fail
    refine hK.out _ _ trivial (fun hHeld4=>?_)
    clear hK K
    (try simp only [Act.put]);(try simp only [List.setIfInBounds_toArray]);(try simp only [List.set_cons_zero,List.set_cons_succ])
    refine rd 5 fun K hK=>?_
    (try simp only [gA,gB,gC])
    go_simp
    refine hK.out _ _ trivial (fun hHeld5=>?_)
    clear hK K
    (try simp only [Act.put]);(try simp only [List.setIfInBounds_toArray]);(try simp only [List.set_cons_zero,List.set_cons_succ])
    refine rd 6 fun K hK=>?_
    refine step_append_lies _ rfl (.tmp 144) (.tmp 148) 24 rfl wc.heap.size 3 i3 _ 1 8 Try.underlying24 HI2.out HZ2.out HS2.out HBY2.out rfl (by decide) u k _ rfl (HO.out.alloc _).drew ⟨wr.heap.size,0,none⟩ 1 1 [.int .i64 lt] rfl rfl (World.news_of_block (heap_new _ _)) (by simp [Value.oneCell']) (by decide) hm1 hm2 hm3 _ rfl ?_
    intro g cap w5 hown hgrow hat hlt5
    have HG5:=grown_trans (grown_ad _ _ _) hgrow
    have hc5:=KP.out w5 HG5
    have hf5:=KF.out w5 HG5 3
    refine hK.out _ _ trivial (fun hHeldA=>?_)
    clear hK K
    (try simp only [Act.put]);(try simp only [List.setIfInBounds_toArray]);(try simp only [List.set_cons_zero,List.set_cons_succ])
    refine tk 7 ?_
    refine rd 8 fun K hK=>?_
    (try simp only [gA,gB,gC])
    go_simp
    refine hK.out _ _ trivial (fun hHeld8=>?_)
    clear hK K
    (try simp only [Act.put]);(try simp only [List.setIfInBounds_toArray]);(try simp only [List.set_cons_zero,List.set_cons_succ])
    refine wpAnyH_done (by kernel_rfl) ?_ _
    refine NoPanic.normal ?_
    generalize hW6:World.setCell w5 _ _=w6
    have HU6:Hid (w6.cell? ⟨hb,3,none⟩=some (.slice (some ⟨g,0,none⟩) (k+1) cap)):=by rw [←hW6];exact World.cell?_setCell_same (h:=hc5) ..
    have HF6:Hid (∀ j,w6.frozen? ⟨hb,j,none⟩=false):=by rw [←hW6];exact fun j=>(World.frozen?_setCell _ _ _ _).trans (KF.out w5 HG5 j)
    have hgs:w5.grownBy w6 (some hb):=by rw [←hW6];exact grown_set _ _ _ _
    have hgh:g≠hb:=fun e=>by
     rcases hat with h | h
     ·have:=(HO.out.lt g h).1;omega
     ·simp at h;omega
    have HO6:Hid (w6.ownsRow wc.heap.size 3 1 (.slice (some ⟨g,0,none⟩) (k+1) cap) (k+1) (((G.outs.take (k+1)).map (litC first nk)).map intV)):=by
     have:=hown.kept hgs (.inr (fun e=>hgh (by cases e;rfl)))
     rw [HNX.out];exact this
    have HG6:Hid (wc.grownBy w6 (some hb)):=grown_thru HG.out HG5 hgs (fun x hx=>(HO.out.lt x hx).1)
    have HJ6:Hid (∀ j,j≠3→w6.cell? ⟨hb,j,none⟩=wc.cell? ⟨hb,j,none⟩):=fun j hj=>by
     rw [←hW6]
     refine (World.cell?_setCell_other (h:=fun e=>hj (by cases e;rfl)) ..).trans ?_
     exact (HG5.cell_far ⟨hb,j,none⟩ (by show hb<_;omega) (fun e=>by have:=(HO.out.lt hb e.symm).1;omega)).trans (HJ.out j hj)
    clear hW6 hgs hgh hown hgrow hat hlt5 HG5 hc5 hf5 HO HG HJ HU HF KP KF HNX hu huA RN
    go_wp2
    go_roundw
    case measure=>simp [intOf];omega
    case rel=>exact ⟨k+1,_,by omega,by simp,HU6.out,HO6.out,HG6.out,HF6.out,HJ6.out⟩
   refine AllReadyH.cons (o:=_) rfl (fun K hK=>?_) AllReadyH.nil
   (try simp only [gA,gB,gC])
   go_simp
   go_at_call 64
   refine RN.out.mono ?_
   rintro e w2 ⟨rfl,rfl⟩
   go_wp2_with fail
   refine hK.out _ _ trivial (fun hHeld4=>?_)
   clear hK K
   (try simp only [Act.put]);(try simp only [List.setIfInBounds_toArray]);(try simp only [List.set_cons_zero,List.set_cons_succ])
   refine wpAnyH_ready (rs:=[1,5]) (by kernel_rfl) (by simp) ?_
   refine AllReadyH.cons (o:=_) rfl (fun K hK=>?_) ?_
   ·(try simp only [gA,gB,gC])
    go_simp
    refine hK.out _ _ trivial (fun hHeld1=>?_)
    clear hK K
    (try simp only [Act.put]);(try simp only [List.setIfInBounds_toArray]);(try simp only [List.set_cons_zero,List.set_cons_succ])
    refine rd 5 fun K hK=>?_
    (try simp only [gA,gB,gC])
    go_simp
    refine hK.out _ _ trivial (fun hHeld5=>?_)
    clear hK K
    (try simp only [Act.put]);(try simp only [List.setIfInBounds_toArray]);(try simp only [List.set_cons_zero,List.set_cons_succ])
    refine rd 6 fun K hK=>?_
    refine step_append_lies _ rfl (.tmp 144) (.tmp 148) 24 rfl wc.heap.size 3 i3 _ 1 8 Try.underlying24 HI2.out HZ2.out HS2.out HBY2.out rfl (by decide) u k _ rfl (HO.out.alloc _).drew ⟨wr.heap.size,0,none⟩ 1 1 [.int .i64 lt] rfl rfl (World.news_of_block (heap_new _ _)) (by simp [Value.oneCell']) (by decide) hm1 hm2 hm3 _ rfl ?_
    intro g cap w5 hown hgrow hat hlt5
    have HG5:=grown_trans (grown_ad _ _ _) hgrow
    have hc5:=KP.out w5 HG5
    have hf5:=KF.out w5 HG5 3
    refine hK.out _ _ trivial (fun hHeldA=>?_)
    clear hK K
    (try simp only [Act.put]);(try simp only [List.setIfInBounds_toArray]);(try simp only [List.set_cons_zero,List.set_cons_succ])
    refine tk 7 ?_
    refine rd 8 fun K hK=>?_
    (try simp only [gA,gB,gC])
    go_simp
    refine hK.out _ _ trivial (fun hHeld8=>?_)
    clear hK K
    (try simp only [Act.put]);(try simp only [List.setIfInBounds_toArray]);(try simp only [List.set_cons_zero,List.set_cons_succ])
    refine wpAnyH_done (by kernel_rfl) ?_ _
    refine NoPanic.normal ?_
    generalize hW6:World.setCell w5 _ _=w6
    have HU6:Hid (w6.cell? ⟨hb,3,none⟩=some (.slice (some ⟨g,0,none⟩) (k+1) cap)):=by rw [←hW6];exact World.cell?_setCell_same (h:=hc5) ..
    have HF6:Hid (∀ j,w6.frozen? ⟨hb,j,none⟩=false):=by rw [←hW6];exact fun j=>(World.frozen?_setCell _ _ _ _).trans (KF.out w5 HG5 j)
    have hgs:w5.grownBy w6 (some hb):=by rw [←hW6];exact grown_set _ _ _ _
    have hgh:g≠hb:=fun e=>by
     rcases hat with h | h
     ·have:=(HO.out.lt g h).1;omega
     ·simp at h;omega
    have HO6:Hid (w6.ownsRow wc.heap.size 3 1 (.slice (some ⟨g,0,none⟩) (k+1) cap) (k+1) (((G.outs.take (k+1)).map (litC first nk)).map intV)):=by
     have:=hown.kept hgs (.inr (fun e=>hgh (by cases e;rfl)))
     rw [HNX.out];exact this
    have HG6:Hid (wc.grownBy w6 (some hb)):=grown_thru HG.out HG5 hgs (fun x hx=>(HO.out.lt x hx).1)
    have HJ6:Hid (∀ j,j≠3→w6.cell? ⟨hb,j,none⟩=wc.cell? ⟨hb,j,none⟩):=fun j hj=>by
     rw [←hW6]
     refine (World.cell?_setCell_other (h:=fun e=>hj (by cases e;rfl)) ..).trans ?_
     exact (HG5.cell_far ⟨hb,j,none⟩ (by show hb<_;omega) (fun e=>by have:=(HO.out.lt hb e.symm).1;omega)).trans (HJ.out j hj)
    clear hW6 hgs hgh hown hgrow hat hlt5 HG5 hc5 hf5 HO HG HJ HU HF KP KF HNX hu huA RN
    go_wp2
    go_roundw
    case measure=>simp [intOf];omega
    case rel=>exact ⟨k+1,_,by omega,by simp,HU6.out,HO6.out,HG6.out,HF6.out,HJ6.out⟩
   refine AllReadyH.cons (o:=_) rfl (fun K hK=>?_) AllReadyH.nil
   (try simp only [gA,gB,gC])
   go_simp
   refine hK.out _ _ trivial (fun hHeld5=>?_)
   clear hK K
   (try simp only [Act.put]);(try simp only [List.setIfInBounds_toArray]);(try simp only [List.set_cons_zero,List.set_cons_succ])
   refine rd 1 fun K hK=>?_
   (try simp only [gA,gB,gC])
   go_simp
   refine hK.out _ _ trivial (fun hHeld1=>?_)
   clear hK K
   (try simp only [Act.put]);(try simp only [List.setIfInBounds_toArray]);(try simp only [List.set_cons_zero,List.set_cons_succ])
   refine rd 6 fun K hK=>?_
   refine step_append_lies _ rfl (.tmp 144) (.tmp 148) 24 rfl wc.heap.size 3 i3 _ 1 8 Try.underlying24 HI2.out HZ2.out HS2.out HBY2.out rfl (by decide) u k _ rfl (HO.out.alloc _).drew ⟨wr.heap.size,0,none⟩ 1 1 [.int .i64 lt] rfl rfl (World.news_of_block (heap_new _ _)) (by simp [Value.oneCell']) (by decide) hm1 hm2 hm3 _ rfl ?_
   intro g cap w5 hown hgrow hat hlt5
   have HG5:=grown_trans (grown_ad _ _ _) hgrow
   have hc5:=KP.out w5 HG5
   have hf5:=KF.out w5 HG5 3
   refine hK.out _ _ trivial (fun hHeldA=>?_)
   clear hK K
   (try simp only [Act.put]);(try simp only [List.setIfInBounds_toArray]);(try simp only [List.set_cons_zero,List.set_cons_succ])
   refine tk 7 ?_
   refine rd 8 fun K hK=>?_
   (try simp only [gA,gB,gC])
   go_simp
   refine hK.out _ _ trivial (fun hHeld8=>?_)
   clear hK K
   (try simp only [Act.put]);(try simp only [List.setIfInBounds_toArray]);(try simp only [List.set_cons_zero,List.set_cons_succ])
   refine wpAnyH_done (by kernel_rfl) ?_ _
   refine NoPanic.normal ?_
   generalize hW6:World.setCell w5 _ _=w6
   have HU6:Hid (w6.cell? ⟨hb,3,none⟩=some (.slice (some ⟨g,0,none⟩) (k+1) cap)):=by rw [←hW6];exact World.cell?_setCell_same (h:=hc5) ..
   have HF6:Hid (∀ j,w6.frozen? ⟨hb,j,none⟩=false):=by rw [←hW6];exact fun j=>(World.frozen?_setCell _ _ _ _).trans (KF.out w5 HG5 j)
   have hgs:w5.grownBy w6 (some hb):=by rw [←hW6];exact grown_set _ _ _ _
   have hgh:g≠hb:=fun e=>by
    rcases hat with h | h
    ·have:=(HO.out.lt g h).1;omega
    ·simp at h;omega
   have HO6:Hid (w6.ownsRow wc.heap.size 3 1 (.slice (some ⟨g,0,none⟩) (k+1) cap) (k+1) (((G.outs.take (k+1)).map (litC first nk)).map intV)):=by
    have:=hown.kept hgs (.inr (fun e=>hgh (by cases e;rfl)))
    rw [HNX.out];exact this
   have HG6:Hid (wc.grownBy w6 (some hb)):=grown_thru HG.out HG5 hgs (fun x hx=>(HO.out.lt x hx).1)
   have HJ6:Hid (∀ j,j≠3→w6.cell? ⟨hb,j,none⟩=wc.cell? ⟨hb,j,none⟩):=fun j hj=>by
    rw [←hW6]
    refine (World.cell?_setCell_other (h:=fun e=>hj (by cases e;rfl)) ..).trans ?_
    exact (HG5.cell_far ⟨hb,j,none⟩ (by show hb<_;omega) (fun e=>by have:=(HO.out.lt hb e.symm).1;omega)).trans (HJ.out j hj)
   clear hW6 hgs hgh hown hgrow hat hlt5 HG5 hc5 hf5 HO HG HJ HU HF KP KF HNX hu huA RN
   go_wp2
   go_roundw
   case measure=>simp [intOf];omega
   case rel=>exact ⟨k+1,_,by omega,by simp,HU6.out,HO6.out,HG6.out,HF6.out,HJ6.out⟩
  ·have hge:¬ ((k:Int)<(G.outs.length:Int)):=by omega
   have HEN:Hid (wr.ownsRow wc.heap.size 3 1 u G.outs.length ((G.outs.map (litC first nk)).map intV)):=by
    have:=HO.out
    rw [List.take_of_length_le (by omega),show k=G.outs.length by omega] at this
    exact this
   clear HO
   go_wp2
   exact HK.out _ _ _ _ _ _ _ _ _ _ _ _ _ _ _ ⟨⟨u,HU.out,HEN.out⟩,HG.out,HJ.out,HF.out⟩
end Go.Proofs.Ytlaljeobdddegaa
