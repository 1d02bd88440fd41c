import Derived.Test.YtlaljeobdddegaaJ05
import Derived.Test.YtlaljeobdddegaaJ16
namespace Go.Proofs.Ytlaljeobdddegaa
open Go.RowKit
set_option maxRecDepth 100000 in
set_option maxHeartbeats 8000000 in
theorem kpAnds (wc:World) (G:GrD) (first:Nat) (nk:List Bool) (B n sb gb g nb hb tg tc:Nat) (a:Option Addr) (c:Nat) (s0:wc.cell? ⟨sb,0,none⟩=some (.pointer (some ⟨gb,0,none⟩))) (s1:wc.cell? ⟨sb,1,none⟩=some (.slice (some ⟨g,0,none⟩) n n)) (hsb:sb<wc.heap.size) (hg:g<wc.heap.size) (hsh:sb≠hb) (hgh0:g≠hb) (hfn:first+G.ands.length=n) (hnk:nk.length=G.ands.length) (HM:Hid (∀ (i:Nat) (b:Bool),nk[i]?=some b→wc.cell? ⟨g,first+i,none⟩=some (.bool b))) (FG:Hid (∀ w',wc.grownBy w' (some hb)→Calls Try.prog 30 #[.pointer (some ⟨gb,0,none⟩)] w' fun e w''=>e = .returned (.int .i64 (first:Int))∧∃ k,w''=w'.drewN k)) (q3:wc.cell? ⟨nb,0,none⟩=some (.slice (some ⟨tg,0,none⟩) n tc)) (hnb:nb<wc.heap.size) (hnh:nb≠hb) (HR:Hid (RowAt B wc a 2 (G.ands.map AndD.cells))) (hBw:B≤wc.heap.size) (hBh:B≤hb) (hin:∀ (k:Nat) (d:AndD),G.ands[k]?=some d→(0≤d.x∧d.x<2*((first+k:Nat):Int))∧(0≤d.y∧d.y<2*((first+k:Nat):Int))) (hn:n≤60000) (hhb:hb<wc.heap.size) (htg:tg<wc.heap.size) (hth:tg≠hb) (HT:Hid (∀ v,v<n→wc.cell? ⟨tg,v,none⟩=some (.int .i64 (toV first nk v:Nat))∧toV first nk v≤60000)) (hq:wc.cell? ⟨hb,2,none⟩=some (.slice none 0 0)) (hfr:∀ j,wc.frozen? ⟨hb,j,none⟩=false) (K':Act→World→Prop) (Q0:Exit→Act→World→Prop) (x1 x2 x3 x4 x5 x6 x9 x10 x11 x12 x13 x14 x15 x16 x17 x18 x19 x20 x21 x22 x23 x24 x25 x26 x27 x28 x29 x30 x31 x32 x33 x34 x35 x36 x37 x38 x39 x40 x41 x42 x43 x44 x45 x46 x47 x48 x49 x50 x51 x52 x53 x54 x55 x56 x57 x58 x59 x60 x61 x62 x63 x64 x65 x66 x67 x68 x69 x70 x71 x72 x73 x74 x75 x76 x77 x78 x79 x80 x81 x82 x83 x84 x85 x86 x87 x88 x89 x90 x91 x92 x93 x94 x95 x99 x100 x101 x102 x103 x104 x105 x106 x107 x108 x109 x110 x111 x112 x113 x114 x115 x116 x117 x118 x119 x120 x121 x122 x123 x124 x125 x126 x127 x128 x129 x130 x131 x132 x133 x134 x135 x136 x137 x138 x139 x140 x141 x142 x143 x144 x145 x146 x147 x148 x149 x150 x151 x152:Value)
  (HK:Hid (∀ (w':World) (s11 s12 s98 s99 s100 s101 s102 s103 s104 s105 s106 s107 s108 s109 s110 s111 s112 s113 s114 s115 s116 s117 s118 s119 s120 s121 s122 s123 s124 s125 s126 s127 s128 s129 s130:Value),(∃ u,w'.cell? ⟨hb,2,none⟩=some u∧w'.ownsRow wc.heap.size 46 2 u (keptK first nk G.ands (G.ands.length)).length ((keptK first nk G.ands (G.ands.length)).flatMap AndD.cells))∧wc.grownBy w' (some hb)∧(∀ j,j≠2→w'.cell? ⟨hb,j,none⟩=wc.cell? ⟨hb,j,none⟩)∧(∀ j,w'.frozen? ⟨hb,j,none⟩=false)→K' ⟨#[.pointer (some ⟨sb,0,none⟩),x1,x2,x3,x4,x5,x6,.func (.func 64) #[] #[.pointer (some ⟨nb,0,none⟩)],.pointer (some ⟨hb,0,none⟩),x9,x10,s11,s12,x13,x14,x15,x16,x17,x18,x19,x20,x21,x22,x23,x24,x25,x26,x27,x28,x29,x30,x31,x32,x33,x34,x35,x36,x37,x38,x39,x40,x41,x42,x43,x44,x45,x46,x47,x48,x49,x50,x51,x52,x53,x54,x55,x56,x57,x58,x59,x60,x61,x62,x63,x64,x65,x66,x67,x68,x69,x70,x71,x72,x73,x74,x75,x76,x77,x78,x79,x80,x81,x82,x83,x84,x85,x86,x87,x88,x89,x90,x91,x92,x93,x94,x95,.slice a G.ands.length c,.int .i64 (G.ands.length:Int),s98,s99,s100,s101,s102,s103,s104,s105,s106,s107,s108,s109,s110,s111,s112,s113,s114,s115,s116,s117,s118,s119,s120,s121,s122,s123,s124,s125,s126,s127,s128,s129,s130,x131,x132,x133,x134,x135,x136,x137,x138,x139,x140,x141,x142,x143,x144,x145,x146,x147,x148,x149,x150,x151,x152],[]⟩ w')) :
  Code.wp Try.prog ((Try.f48.body.bind (blockAt 4)).getD .skip) (Exit.then K' Q0) ⟨#[.pointer (some ⟨sb,0,none⟩),x1,x2,x3,x4,x5,x6,.func (.func 64) #[] #[.pointer (some ⟨nb,0,none⟩)],.pointer (some ⟨hb,0,none⟩),x9,x10,x11,x12,x13,x14,x15,x16,x17,x18,x19,x20,x21,x22,x23,x24,x25,x26,x27,x28,x29,x30,x31,x32,x33,x34,x35,x36,x37,x38,x39,x40,x41,x42,x43,x44,x45,x46,x47,x48,x49,x50,x51,x52,x53,x54,x55,x56,x57,x58,x59,x60,x61,x62,x63,x64,x65,x66,x67,x68,x69,x70,x71,x72,x73,x74,x75,x76,x77,x78,x79,x80,x81,x82,x83,x84,x85,x86,x87,x88,x89,x90,x91,x92,x93,x94,x95,.slice a G.ands.length c,.int .i64 (G.ands.length:Int),.int .i64 0,x99,x100,x101,x102,x103,x104,x105,x106,x107,x108,x109,x110,x111,x112,x113,x114,x115,x116,x117,x118,x119,x120,x121,x122,x123,x124,x125,x126,x127,x128,x129,x130,x131,x132,x133,x134,x135,x136,x137,x138,x139,x140,x141,x142,x143,x144,x145,x146,x147,x148,x149,x150,x151,x152],[]⟩ wc:=by
 conv=>arg 2;whnf
 obtain ⟨i3,hi3,hz3,hs3,hb3⟩:=info_pair
 have HI2:=hidden hi3
 have HZ2:=hidden hz3
 have HS2:=hidden hs3
 have HBY2:=hidden hb3
 clear hi3 hz3 hs3 hb3
 go_wp2_with fail
 go_loopw [98] (fun i' w'=>∃ (k:Nat) (u:Value),k≤G.ands.length∧i' = .int .i64 k∧Hid (w'.cell? ⟨hb,2,none⟩=some u)∧Hid (w'.ownsRow wc.heap.size 46 2 u (keptK first nk G.ands (k)).length ((keptK first nk G.ands (k)).flatMap AndD.cells))∧Hid (wc.grownBy w' (some hb))∧Hid (∀ j,w'.frozen? ⟨hb,j,none⟩=false)∧Hid (∀ j,j≠2→w'.cell? ⟨hb,j,none⟩=wc.cell? ⟨hb,j,none⟩)) (fun i' _=>G.ands.length - (intOf i').toNat)
 case atStart=>exact ⟨0,_,Nat.zero_le _,rfl,hq,World.ownsRow_nil _ _ _ _,grown_refl _ _,hfr,fun _ _=>rfl⟩
 case round =>
  obtain ⟨k,u,hk,rfl,HU,HO,HG,HF,HJ⟩:=hrel
  by_cases hlt:k<G.ands.length
  ·obtain ⟨z,hz⟩:∃ z,G.ands[k]?=some z:=getElem_lt hlt
   obtain ⟨b,hbk⟩:∃ b,nk[k]?=some b:=getElem_lt (by omega)
   obtain ⟨rb,ro,ea,hrb,hrc⟩:=HR.out.el hz
   subst ea
   have hrw:rb<wc.heap.size:=Nat.lt_of_lt_of_le hrb hBw
   obtain ⟨hzx,hzy⟩:=hin k z hz
   have HKN:=hidden (keptK_next first nk G.ands k z b hz hbk)
   obtain ⟨x,y⟩:=z
   have c1:wr.cell? ⟨rb,ro+k*2,none⟩=some (.int .i64 x):=(HG.out.cell_far _ hrw (by simp;omega)).trans (hrc 0 _ rfl)
   have c2:wr.cell? ⟨rb,ro+k*2+1,none⟩=some (.int .i64 y):=(HG.out.cell_far _ hrw (by simp;omega)).trans (hrc 1 _ rfl)
   simp only at hzx hzy HKN
   have hsz:=HG.out.size
   have hltI:(k:Int)<(G.ands.length:Int):=by omega
   go_upto_region 21 with fail
   generalize hWA:World.alloc wr _=wA
   obtain ⟨lb,hlb⟩:∃ x,x=wr.heap.size:=⟨_,rfl⟩
   have HGA:Hid (wr.grownBy wA u.ownBlock):=by rw [←hWA];exact grown_al _ _ _
   have HGC:Hid (wc.grownBy wA (some hb)):=grown_trans HG.out (by rw [←hWA];exact grown_al _ _ _)
   have HBA:Hid (Below wr.heap.size wr wA):=by rw [←hWA];exact (Below.refl _ _).alloc (Nat.le_refl _) _
   have HLA:Hid (wA.cell? ⟨lb,0,none⟩=some (.int .i64 x)∧wA.cell? ⟨lb,1,none⟩=some (.int .i64 y)):=by
    rw [←hWA,hlb];exact ⟨cell_new rfl,cell_new rfl⟩
   have hlA:lb<wA.heap.size:=by rw [←hWA,hlb];simp
   have hlc:wc.heap.size≤lb:=by omega
   have hlr:wr.heap.size≤lb:=by omega
   rw [←hlb]
   have far:∀ x,x<wc.heap.size→some x≠u.ownBlock:=fun x hx e=>by have:=(HO.out.lt x e.symm).1;omega
   obtain ⟨ix,hix⟩:∃ x,x=first+k:=⟨_,rfl⟩
   have g0:wA.cell? ⟨sb,0,none⟩=some (.pointer (some ⟨gb,0,none⟩)):=(HGC.out.cell_far ⟨sb,0,none⟩ hsb (by simp;omega)).trans s0
   have g1:wA.cell? ⟨sb,1,none⟩=some (.slice (some ⟨g,0,none⟩) n n):=(HGC.out.cell_far ⟨sb,1,none⟩ hsb (by simp;omega)).trans s1
   have g3:wA.cell? ⟨g,ix,none⟩=some (.bool b):=(HGC.out.cell_far ⟨g,ix,none⟩ hg (by simp;omega)).trans (by rw [hix];exact HM.out k b hbk)
   have FGA:Hid (∀ w',w'=wA.drew→Calls Try.prog 30 #[.pointer (some ⟨gb,0,none⟩)] w' fun e w''=>e = .returned (.int .i64 (first:Int))∧∃ k,w''=w'.drewN k):=fun w' hw'=>by rw [hw'];exact FG.out _ ⟨HGC.out.os,HGC.out.tape,HGC.out.output,HGC.out.size,HGC.out.block⟩
   clear hWA hlb c1 c2
   have eJ:IntKind.i64.wrap ((first:Int)+(k:Int))=(ix:Int):=by rw [wrapI _ (by omega) (by omega)];omega
   have hxI:(ix:Int)<(n:Int):=by omega
   have hx2:ix≤130000:=by omega
   clear hix
   (
   refine wp_region_noPanic ?_
   refine wp_region_held_drew (S:=(fun w'=>w'.cell? ⟨sb,0,none⟩=some (.pointer (some ⟨gb,0,none⟩))∧w'.cell? ⟨sb,1,none⟩=some (.slice (some ⟨g,0,none⟩) n n)∧w'.cell? ⟨g,ix,none⟩=some (.bool b))) (by kernel_rfl) (by first | assumption | exact ⟨g0,g1,g3⟩ | (rw [hw2];exact ⟨g0,g1,g3⟩)) (fun hHeld=>?_)
   refine tk 0 ?_
   refine tk 1 ?_
   refine tk 2 ?_
   refine tk 3 ?_
   refine tk 4 ?_
   refine tk 5 ?_
   refine tk 6 ?_
   refine tk 7 ?_
   refine tk 9 ?_
   refine rd 8 fun K hK=>?_
   (try simp only [gA,gB,gC])
   go_simp
   go_at_call 30
   refine (FGA.out _ rfl).mono ?_
   rintro e w2 ⟨rfl,dk,hw2⟩
   go_wp2_with fail
   refine hK.out _ _ (by first | assumption | exact ⟨g0,g1,g3⟩ | (rw [hw2];exact ⟨g0,g1,g3⟩)) (fun hHeld1=>?_)
   clear hK K
   try simp only [Act.put,List.setIfInBounds_toArray,List.set_cons_zero,List.set_cons_succ]
   refine tk 10 ?_
   refine tk 11 ?_
   refine tk 12 ?_
   refine wpAnyH_done (by kernel_rfl) ?_ _
   refine NoPanic.normal ?_
   )
   generalize hWB:World.drewN wA _=wB
   have HGB:Hid (wr.grownBy wB u.ownBlock):=by rw [←hWB];exact ⟨HGA.out.os,HGA.out.tape,HGA.out.output,HGA.out.size,HGA.out.block⟩
   have HGCB:Hid (wc.grownBy wB (some hb)):=by rw [←hWB];exact ⟨HGC.out.os,HGC.out.tape,HGC.out.output,HGC.out.size,HGC.out.block⟩
   have hsB:wA.heap.size≤wB.heap.size:=by rw [←hWB];exact Nat.le_refl _
   have cz:wB.cell? ⟨lb,0,none⟩=some (.int .i64 x):=by rw [←hWB];exact HLA.out.1
   have ci:wB.cell? ⟨lb,1,none⟩=some (.int .i64 y):=by rw [←hWB];exact HLA.out.2
   have HOB0:Hid (wB.ownsRow wc.heap.size 46 2 u (keptK first nk G.ands (k)).length ((keptK first nk G.ands (k)).flatMap AndD.cells)):=by
    rw [←hWB]
    exact own_below (own_below HO.out HBA.out) (Below.drewN (Below.refl _ _) _)
   have huB:wB.cell? ⟨hb,2,none⟩=some u:=(HGB.out.cell_far ⟨hb,2,none⟩ (by show hb<_;omega) (far hb hhb)).trans HU.out
   have HFB:Hid (∀ j,wB.frozen? ⟨hb,j,none⟩=false):=fun j=>(HGB.out.frozen_far ⟨hb,j,none⟩ (by show hb<_;omega) (far hb hhb)).trans (HF.out j)
   have HJB:Hid (∀ j,j≠2→wB.cell? ⟨hb,j,none⟩=wc.cell? ⟨hb,j,none⟩):=fun j hj=>(HGB.out.cell_far ⟨hb,j,none⟩ (by show hb<_;omega) (far hb hhb)).trans (HJ.out j hj)
   have e3:IntKind.i64.wrap ((k:Int)+1)=(k:Int)+1:=wrapI _ (by omega) (by omega)
   have hul:some lb≠u.ownBlock:=fun e=>by have:=(HO.out.lt lb e.symm).2;omega
   clear hWB hw2 HGA HGC HBA HLA g0 g1 g3 HO HU eJ hxI hx2 FGA hrc
   cases b
   ·have HE:Hid (keptK first nk G.ands (k+1)=keptK first nk G.ands k):=by
     show _=_
     rw [HKN.out];simp
    have HUB:=hidden huB
    have HOE:Hid (wB.ownsRow wc.heap.size 46 2 u (keptK first nk G.ands (k+1)).length ((keptK first nk G.ands (k+1)).flatMap AndD.cells)):=by
     show World.ownsRow _ _ _ _ _ _ _
     rw [HE.out];exact HOB0.out
    clear huB HKN HE cz ci
    go_wp2
    go_roundw
    case measure=>simp [intOf];omega
    case rel=>exact ⟨k+1,u,by omega,by simp,HUB.out,HOE.out,HGCB.out,HFB.out,HJB.out⟩
   ·have RX:Hid (Calls Try.prog 64 #[.int .i64 x,.pointer (some ⟨nb,0,none⟩)] wB.drew fun e w'=>e = .returned (.int .i64 (litC first nk x))∧w'=wB.drew) :=
     renum_any wB.drew nb tg tc n first nk ((HGCB.out.cell_far ⟨nb,0,none⟩ hnb (by simp;omega)).trans q3) hn (fun v hv=>⟨(HGCB.out.cell_far ⟨tg,v,none⟩ htg (by simp;omega)).trans (HT.out v hv).1,(HT.out v hv).2⟩) x hzx.1 (by omega)
    have RY:Hid (Calls Try.prog 64 #[.int .i64 y,.pointer (some ⟨nb,0,none⟩)] wB.drew fun e w'=>e = .returned (.int .i64 (litC first nk y))∧w'=wB.drew) :=
     renum_any wB.drew nb tg tc n first nk ((HGCB.out.cell_far ⟨nb,0,none⟩ hnb (by simp;omega)).trans q3) hn (fun v hv=>⟨(HGCB.out.cell_far ⟨tg,v,none⟩ htg (by simp;omega)).trans (HT.out v hv).1,(HT.out v hv).2⟩) y hzy.1 (by omega)
    have HNX:Hid (keptK first nk G.ands (k+1)=keptK first nk G.ands k++[⟨litC first nk x,litC first nk y⟩]):=by
     show _=_
     rw [HKN.out];rfl
    obtain ⟨cnt,HCN⟩:∃ n,Hid ((keptK first nk G.ands k).length=n):=⟨_,rfl⟩
    have hcn:cnt≤k:=by rw [←HCN.out,keptK_len _ _ _ _ hnk];exact Nat.le_trans List.count_le_length (by simp;omega)
    have HOB:Hid (wB.ownsRow wc.heap.size 46 2 u cnt ((keptK first nk G.ands k).flatMap AndD.cells)):=by
     show World.ownsRow _ _ _ _ _ _ _
     rw [←HCN.out];exact HOB0.out
    generalize litC first nk x=lx at *
    generalize litC first nk y=ly at *
    have hm1:cnt+1≤maxLen:=by simp only [maxLen];omega
    have hm2:(cnt+1)*16≤140737488355328:=by omega
    have hm3:wc.heap.size≤((wB.alloc (.cells #[.int .i64 lx,.int .i64 ly] 46)).drew).heap.size:=by simp;omega
    have hlh:lb≠hb:=by omega
    clear hz hzx hzy HKN HOB0 HJB HGCB
    have hu:=huB
    have KP:Hid (∀ w',wB.grownBy w' u.ownBlock→w'.cell? ⟨hb,2,none⟩=some u):=fun w' hg=>(hg.cell_far ⟨hb,2,none⟩ (by show hb<_;omega) (far hb hhb)).trans huB
    have KT:Hid (∀ w',wB.grownBy w' u.ownBlock→w'.cell? ⟨lb,0,none⟩=some (.int .i64 x)∧w'.cell? ⟨lb,1,none⟩=some (.int .i64 y)):=fun w' hg=>⟨(hg.cell_far ⟨lb,0,none⟩ (by show lb<_;omega) hul).trans cz,(hg.cell_far ⟨lb,1,none⟩ (by show lb<_;omega) hul).trans ci⟩
    have KF:Hid (∀ w',wB.grownBy w' u.ownBlock→∀ j,w'.frozen? ⟨hb,j,none⟩=false):=fun w' hg j=>(hg.frozen_far ⟨hb,j,none⟩ (by show hb<_;omega) (far hb hhb)).trans (HFB.out j)
    have huA:(wB.alloc (.cells #[.int .i64 lx,.int .i64 ly] 46)).cell? ⟨hb,2,none⟩=some u:=KP.out _ (grown_al _ _ _)
    clear huB HFB
    go_upto_region 22 with fail
    refine wp_region_noPanic ?_
    refine wp_region_held_drew (S:=(fun w'=>w'.cell? ⟨lb,0,none⟩=some (.int .i64 x)∧w'.cell? ⟨lb,1,none⟩=some (.int .i64 y))) (by kernel_rfl) (by (first | assumption | exact ⟨cz,ci⟩ | exact KT.out _ (grown_ad _ _ _) | exact KT.out _ (grown_al _ _ _) | exact KT.out _ (by assumption) | exact ⟨(World.cell?_setCell_far _ _ _ _ (fun e=>hlh (Eq.symm e))).trans (KT.out _ HG5).1,(World.cell?_setCell_far _ _ _ _ (fun e=>hlh (Eq.symm e))).trans (KT.out _ HG5).2⟩)) (fun hHeld=>?_)
    refine tk 0 ?_
    refine tk 2 ?_
    refine tk 3 ?_
    refine tk 4 ?_
    refine tk 6 ?_
    refine tk 7 ?_
    refine tk 8 ?_
    refine wpAnyH_ready (rs:=[1,5]) (by kernel_rfl) (by simp) ?_
    refine AllReadyH.cons (o:=_) rfl (fun K hK=>?_) ?_
    ·(try simp only [gA,gB,gC])
     go_simp
     refine hK.out _ _ (by (first | assumption | exact ⟨cz,ci⟩ | exact KT.out _ (grown_ad _ _ _) | exact KT.out _ (grown_al _ _ _) | exact KT.out _ (by assumption) | exact ⟨(World.cell?_setCell_far _ _ _ _ (fun e=>hlh (Eq.symm e))).trans (KT.out _ HG5).1,(World.cell?_setCell_far _ _ _ _ (fun e=>hlh (Eq.symm e))).trans (KT.out _ HG5).2⟩)) (fun hHeld1=>?_)
     clear hK K
     (try simp only [Act.put]);(try simp only [List.setIfInBounds_toArray]);(try simp only [List.set_cons_zero,List.set_cons_succ])
     refine rd 5 fun K hK=>?_
     (try simp only [gA,gB,gC])
     go_simp
     go_at_call 64
     refine RX.out.mono ?_
     rintro e w2 ⟨rfl,rfl⟩
     go_wp2_with fail
     refine hK.out _ _ (by (first | assumption | exact ⟨cz,ci⟩ | exact KT.out _ (grown_ad _ _ _) | exact KT.out _ (grown_al _ _ _) | exact KT.out _ (by assumption) | exact ⟨(World.cell?_setCell_far _ _ _ _ (fun e=>hlh (Eq.symm e))).trans (KT.out _ HG5).1,(World.cell?_setCell_far _ _ _ _ (fun e=>hlh (Eq.symm e))).trans (KT.out _ HG5).2⟩)) (fun hHeld5=>?_)
     clear hK K
     (try simp only [Act.put]);(try simp only [List.setIfInBounds_toArray]);(try simp only [List.set_cons_zero,List.set_cons_succ])
     refine rd 9 fun K hK=>?_
     (try simp only [gA,gB,gC])
     go_simp
     go_at_call 64
     refine RY.out.mono ?_
     rintro e w2 ⟨rfl,rfl⟩
     go_wp2_with fail
     refine hK.out _ _ (by (first | assumption | exact ⟨cz,ci⟩ | exact KT.out _ (grown_ad _ _ _) | exact KT.out _ (grown_al _ _ _) | exact KT.out _ (by assumption) | exact ⟨(World.cell?_setCell_far _ _ _ _ (fun e=>hlh (Eq.symm e))).trans (KT.out _ HG5).1,(World.cell?_setCell_far _ _ _ _ (fun e=>hlh (Eq.symm e))).trans (KT.out _ HG5).2⟩)) (fun hHeld9=>?_)
     clear hK K
     (try simp only [Act.put]);(try simp only [List.setIfInBounds_toArray]);(try simp only [List.set_cons_zero,List.set_cons_succ])
     refine tk 10 ?_
     refine rd 11 fun K hK=>?_
     (try simp only [gA,gB,gC])
     go_simp
     refine hK.out _ _ (by (first | assumption | exact ⟨cz,ci⟩ | exact KT.out _ (grown_ad _ _ _) | exact KT.out _ (grown_al _ _ _) | exact KT.out _ (by assumption) | exact ⟨(World.cell?_setCell_far _ _ _ _ (fun e=>hlh (Eq.symm e))).trans (KT.out _ HG5).1,(World.cell?_setCell_far _ _ _ _ (fun e=>hlh (Eq.symm e))).trans (KT.out _ HG5).2⟩)) (fun hHeld11=>?_)
     clear hK K
     (try simp only [Act.put]);(try simp only [List.setIfInBounds_toArray]);(try simp only [List.set_cons_zero,List.set_cons_succ])
     refine rd 12 fun K hK=>?_
     refine step_append_lies _ rfl (.tmp 117) (.tmp 127) 23 rfl wc.heap.size 46 i3 _ 2 16 Try.underlying23 HI2.out HZ2.out HS2.out HBY2.out rfl (by decide) u cnt _ rfl (HOB.out.alloc _).drew ⟨wB.heap.size,0,none⟩ 1 1 [.int .i64 lx,.int .i64 ly] rfl rfl (World.news_of_block (heap_new _ _)) (by simp [Value.oneCell']) (by decide) hm1 hm2 hm3 _ rfl ?_
     intro g1 cap w5 hown hgrow hat hlt5
     have HG5:=grown_trans (grown_ad _ _ _) hgrow
     have hc5:=KP.out w5 HG5
     have hf5:=KF.out w5 HG5 2
     refine hK.out _ _ (by (first | assumption | exact ⟨cz,ci⟩ | exact KT.out _ (grown_ad _ _ _) | exact KT.out _ (grown_al _ _ _) | exact KT.out _ (by assumption) | exact ⟨(World.cell?_setCell_far _ _ _ _ (fun e=>hlh (Eq.symm e))).trans (KT.out _ HG5).1,(World.cell?_setCell_far _ _ _ _ (fun e=>hlh (Eq.symm e))).trans (KT.out _ HG5).2⟩)) (fun hHeldA=>?_)
     clear hK K
     (try simp only [Act.put]);(try simp only [List.setIfInBounds_toArray]);(try simp only [List.set_cons_zero,List.set_cons_succ])
     refine tk 13 ?_
     refine rd 14 fun K hK=>?_
     (try simp only [gA,gB,gC])
     go_simp
     refine hK.out _ _ (by (first | assumption | exact ⟨cz,ci⟩ | exact KT.out _ (grown_ad _ _ _) | exact KT.out _ (grown_al _ _ _) | exact KT.out _ (by assumption) | exact ⟨(World.cell?_setCell_far _ _ _ _ (fun e=>hlh (Eq.symm e))).trans (KT.out _ HG5).1,(World.cell?_setCell_far _ _ _ _ (fun e=>hlh (Eq.symm e))).trans (KT.out _ HG5).2⟩)) (fun hHeld14=>?_)
     clear hK K
     (try simp only [Act.put]);(try simp only [List.setIfInBounds_toArray]);(try simp only [List.set_cons_zero,List.set_cons_succ])
     refine wpAnyH_done (by kernel_rfl) ?_ _
     refine NoPanic.normal ?_
     generalize hW6:World.setCell w5 _ _=w6
     have HU6:Hid (w6.cell? ⟨hb,2,none⟩=some (.slice (some ⟨g1,0,none⟩) (cnt+1) cap)):=by rw [←hW6];exact World.cell?_setCell_same (h:=hc5) ..
     have HF6:Hid (∀ j,w6.frozen? ⟨hb,j,none⟩=false):=by rw [←hW6];exact fun j=>(World.frozen?_setCell _ _ _ _).trans (KF.out w5 HG5 j)
     have hgs:w5.grownBy w6 (some hb):=by rw [←hW6];exact grown_set _ _ _ _
     have hgh:g1≠hb:=fun e=>by
      rcases hat with h | h
      ·have:=(HOB.out.lt g1 h).1;omega
      ·simp at h;omega
     have HO6:Hid (w6.ownsRow wc.heap.size 46 2 (.slice (some ⟨g1,0,none⟩) (cnt+1) cap) (keptK first nk G.ands (k+1)).length ((keptK first nk G.ands (k+1)).flatMap AndD.cells)):=by
      have:=hown.kept hgs (.inr (fun e=>hgh (by cases e;rfl)))
      show World.ownsRow _ _ _ _ _ _ _
      rw [HNX.out,List.length_append,List.flatMap_append,HCN.out];exact this
     have HG6:Hid (wc.grownBy w6 (some hb)):=grown_thru HG.out (grown_trans HGB.out HG5) hgs (fun x hx=>(HOB.out.lt x hx).1)
     have HJ6:Hid (∀ j,j≠2→w6.cell? ⟨hb,j,none⟩=wc.cell? ⟨hb,j,none⟩):=fun j hj=>by
      rw [←hW6]
      refine (World.cell?_setCell_other (h:=fun e=>hj (by cases e;rfl)) ..).trans ?_
      exact ((grown_trans HGB.out HG5).cell_far ⟨hb,j,none⟩ (by show hb<_;omega) (fun e=>by have:=(HOB.out.lt hb e.symm).1;omega)).trans (HJ.out j hj)
     clear hW6 hgs hgh hown hgrow hat hlt5 HG5 hc5 hf5 HOB HG HJ HF KP KT KF HNX hu huA RX RY HGB
     go_wp2
     go_roundw
     case measure=>simp [intOf];omega
     case rel=>exact ⟨k+1,_,by omega,by simp,HU6.out,HO6.out,HG6.out,HF6.out,HJ6.out⟩
    refine AllReadyH.cons (o:=_) rfl (fun K hK=>?_) AllReadyH.nil
    (try simp only [gA,gB,gC])
    go_simp
    go_at_call 64
    refine RX.out.mono ?_
    rintro e w2 ⟨rfl,rfl⟩
    go_wp2_with fail
    refine hK.out _ _ (by (first | assumption | exact ⟨cz,ci⟩ | exact KT.out _ (grown_ad _ _ _) | exact KT.out _ (grown_al _ _ _) | exact KT.out _ (by assumption) | exact ⟨(World.cell?_setCell_far _ _ _ _ (fun e=>hlh (Eq.symm e))).trans (KT.out _ HG5).1,(World.cell?_setCell_far _ _ _ _ (fun e=>hlh (Eq.symm e))).trans (KT.out _ HG5).2⟩)) (fun hHeld5=>?_)
    clear hK K
    (try simp only [Act.put]);(try simp only [List.setIfInBounds_toArray]);(try simp only [List.set_cons_zero,List.set_cons_succ])
    refine wpAnyH_ready (rs:=[1,9]) (by kernel_rfl) (by simp) ?_
    refine AllReadyH.cons (o:=_) rfl (fun K hK=>?_) ?_
    ·(try simp only [gA,gB,gC])
     go_simp
     refine hK.out _ _ (by (first | assumption | exact ⟨cz,ci⟩ | exact KT.out _ (grown_ad _ _ _) | exact KT.out _ (grown_al _ _ _) | exact KT.out _ (by assumption) | exact ⟨(World.cell?_setCell_far _ _ _ _ (fun e=>hlh (Eq.symm e))).trans (KT.out _ HG5).1,(World.cell?_setCell_far _ _ _ _ (fun e=>hlh (Eq.symm e))).trans (KT.out _ HG5).2⟩)) (fun hHeld1=>?_)
     clear hK K
     (try simp only [Act.put]);(try simp only [List.setIfInBounds_toArray]);(try simp only [List.set_cons_zero,List.set_cons_succ])
     refine rd 9 fun K hK=>?_
     (try simp only [gA,gB,gC])
     go_simp
     go_at_call 64
     refine RY.out.mono ?_
     rintro e w2 ⟨rfl,rfl⟩
     go_wp2_with fail
     refine hK.out _ _ (by (first | assumption | exact ⟨cz,ci⟩ | exact KT.out _ (grown_ad _ _ _) | exact KT.out _ (grown_al _ _ _) | exact KT.out _ (by assumption) | exact ⟨(World.cell?_setCell_far _ _ _ _ (fun e=>hlh (Eq.symm e))).trans (KT.out _ HG5).1,(World.cell?_setCell_far _ _ _ _ (fun e=>hlh (Eq.symm e))).trans (KT.out _ HG5).2⟩)) (fun hHeld9=>?_)
     clear hK K
     (try simp only [Act.put]);(try simp only [List.setIfInBounds_toArray]);(try simp only [List.set_cons_zero,List.set_cons_succ])
     refine tk 10 ?_
     refine rd 11 fun K hK=>?_
     (try simp only [gA,gB,gC])
     go_simp
     refine hK.out _ _ (by (first | assumption | exact ⟨cz,ci⟩ | exact KT.out _ (grown_ad _ _ _) | exact KT.out _ (grown_al _ _ _) | exact KT.out _ (by assumption) | exact ⟨(World.cell?_setCell_far _ _ _ _ (fun e=>hlh (Eq.symm e))).trans (KT.out _ HG5).1,(World.cell?_setCell_far _ _ _ _ (fun e=>hlh (Eq.symm e))).trans (KT.out _ HG5).2⟩)) (fun hHeld11=>?_)
     clear hK K
     (try simp only [Act.put]);(try simp only [List.setIfInBounds_toArray]);(try simp only [List.set_cons_zero,List.set_cons_succ])
     refine rd 12 fun K hK=>?_
     refine step_append_lies _ rfl (.tmp 117) (.tmp 127) 23 rfl wc.heap.size 46 i3 _ 2 16 Try.underlying23 HI2.out HZ2.out HS2.out HBY2.out rfl (by decide) u cnt _ rfl (HOB.out.alloc _).drew ⟨wB.heap.size,0,none⟩ 1 1 [.int .i64 lx,.int .i64 ly] rfl rfl (World.news_of_block (heap_new _ _)) (by simp [Value.oneCell']) (by decide) hm1 hm2 hm3 _ rfl ?_
     intro g1 cap w5 hown hgrow hat hlt5
     have HG5:=grown_trans (grown_ad _ _ _) hgrow
     have hc5:=KP.out w5 HG5
     have hf5:=KF.out w5 HG5 2
     refine hK.out _ _ (by (first | assumption | exact ⟨cz,ci⟩ | exact KT.out _ (grown_ad _ _ _) | exact KT.out _ (grown_al _ _ _) | exact KT.out _ (by assumption) | exact ⟨(World.cell?_setCell_far _ _ _ _ (fun e=>hlh (Eq.symm e))).trans (KT.out _ HG5).1,(World.cell?_setCell_far _ _ _ _ (fun e=>hlh (Eq.symm e))).trans (KT.out _ HG5).2⟩)) (fun hHeldA=>?_)
     clear hK K
     (try simp only [Act.put]);(try simp only [List.setIfInBounds_toArray]);(try simp only [List.set_cons_zero,List.set_cons_succ])
     refine tk 13 ?_
     refine rd 14 fun K hK=>?_
     (try simp only [gA,gB,gC])
     go_simp
     refine hK.out _ _ (by (first | assumption | exact ⟨cz,ci⟩ | exact KT.out _ (grown_ad _ _ _) | exact KT.out _ (grown_al _ _ _) | exact KT.out _ (by assumption) | exact ⟨(World.cell?_setCell_far _ _ _ _ (fun e=>hlh (Eq.symm e))).trans (KT.out _ HG5).1,(World.cell?_setCell_far _ _ _ _ (fun e=>hlh (Eq.symm e))).trans (KT.out _ HG5).2⟩)) (fun hHeld14=>?_)
     clear hK K
     (try simp only [Act.put]);(try simp only [List.setIfInBounds_toArray]);(try simp only [List.set_cons_zero,List.set_cons_succ])
     refine wpAnyH_done (by kernel_rfl) ?_ _
     refine NoPanic.normal ?_
     generalize hW6:World.setCell w5 _ _=w6
     have HU6:Hid (w6.cell? ⟨hb,2,none⟩=some (.slice (some ⟨g1,0,none⟩) (cnt+1) cap)):=by rw [←hW6];exact World.cell?_setCell_same (h:=hc5) ..
     have HF6:Hid (∀ j,w6.frozen? ⟨hb,j,none⟩=false):=by rw [←hW6];exact fun j=>(World.frozen?_setCell _ _ _ _).trans (KF.out w5 HG5 j)
     have hgs:w5.grownBy w6 (some hb):=by rw [←hW6];exact grown_set _ _ _ _
     have hgh:g1≠hb:=fun e=>by
      rcases hat with h | h
      ·have:=(HOB.out.lt g1 h).1;omega
      ·simp at h;omega
     have HO6:Hid (w6.ownsRow wc.heap.size 46 2 (.slice (some ⟨g1,0,none⟩) (cnt+1) cap) (keptK first nk G.ands (k+1)).length ((keptK first nk G.ands (k+1)).flatMap AndD.cells)):=by
      have:=hown.kept hgs (.inr (fun e=>hgh (by cases e;rfl)))
      show World.ownsRow _ _ _ _ _ _ _
      rw [HNX.out,List.length_append,List.flatMap_append,HCN.out];exact this
     have HG6:Hid (wc.grownBy w6 (some hb)):=grown_thru HG.out (grown_trans HGB.out HG5) hgs (fun x hx=>(HOB.out.lt x hx).1)
     have HJ6:Hid (∀ j,j≠2→w6.cell? ⟨hb,j,none⟩=wc.cell? ⟨hb,j,none⟩):=fun j hj=>by
      rw [←hW6]
      refine (World.cell?_setCell_other (h:=fun e=>hj (by cases e;rfl)) ..).trans ?_
      exact ((grown_trans HGB.out HG5).cell_far ⟨hb,j,none⟩ (by show hb<_;omega) (fun e=>by have:=(HOB.out.lt hb e.symm).1;omega)).trans (HJ.out j hj)
     clear hW6 hgs hgh hown hgrow hat hlt5 HG5 hc5 hf5 HOB HG HJ HF KP KT KF HNX hu huA RX RY HGB
     go_wp2
     go_roundw
     case measure=>simp [intOf];omega
     case rel=>exact ⟨k+1,_,by omega,by simp,HU6.out,HO6.out,HG6.out,HF6.out,HJ6.out⟩
    refine AllReadyH.cons (o:=_) rfl (fun K hK=>?_) AllReadyH.nil
    (try simp only [gA,gB,gC])
    go_simp
    go_at_call 64
    refine RY.out.mono ?_
    rintro e w2 ⟨rfl,rfl⟩
    go_wp2_with fail
    refine hK.out _ _ (by (first | assumption | exact ⟨cz,ci⟩ | exact KT.out _ (grown_ad _ _ _) | exact KT.out _ (grown_al _ _ _) | exact KT.out _ (by assumption) | exact ⟨(World.cell?_setCell_far _ _ _ _ (fun e=>hlh (Eq.symm e))).trans (KT.out _ HG5).1,(World.cell?_setCell_far _ _ _ _ (fun e=>hlh (Eq.symm e))).trans (KT.out _ HG5).2⟩)) (fun hHeld9=>?_)
    clear hK K
    (try simp only [Act.put]);(try simp only [List.setIfInBounds_toArray]);(try simp only [List.set_cons_zero,List.set_cons_succ])
    refine tk 10 ?_
    refine wpAnyH_ready (rs:=[1,11]) (by kernel_rfl) (by simp) ?_
    refine AllReadyH.cons (o:=_) rfl (fun K hK=>?_) ?_
    ·(try simp only [gA,gB,gC])
     go_simp
     refine hK.out _ _ (by (first | assumption | exact ⟨cz,ci⟩ | exact KT.out _ (grown_ad _ _ _) | exact KT.out _ (grown_al _ _ _) | exact KT.out _ (by assumption) | exact ⟨(World.cell?_setCell_far _ _ _ _ (fun e=>hlh (Eq.symm e))).trans (KT.out _ HG5).1,(World.cell?_setCell_far _ _ _ _ (fun e=>hlh (Eq.symm e))).trans (KT.out _ HG5).2⟩)) (fun hHeld1=>?_)
     clear hK K
     (try simp only [Act.put]);(try simp only [List.setIfInBounds_toArray]);(try simp only [List.set_cons_zero,List.set_cons_succ])
     refine rd 11 fun K hK=>?_
     (try simp only [gA,gB,gC])
     go_simp
     refine hK.out _ _ (by (first | assumption | exact ⟨cz,ci⟩ | exact KT.out _ (grown_ad _ _ _) | exact KT.out _ (grown_al _ _ _) | exact KT.out _ (by assumption) | exact ⟨(World.cell?_setCell_far _ _ _ _ (fun e=>hlh (Eq.symm e))).trans (KT.out _ HG5).1,(World.cell?_setCell_far _ _ _ _ (fun e=>hlh (Eq.symm e))).trans (KT.out _ HG5).2⟩)) (fun hHeld11=>?_)
     clear hK K
     (try simp only [Act.put]);(try simp only [List.setIfInBounds_toArray]);(try simp only [List.set_cons_zero,List.set_cons_succ])
     refine rd 12 fun K hK=>?_
     refine step_append_lies _ rfl (.tmp 117) (.tmp 127) 23 rfl wc.heap.size 46 i3 _ 2 16 Try.underlying23 HI2.out HZ2.out HS2.out HBY2.out rfl (by decide) u cnt _ rfl (HOB.out.alloc _).drew ⟨wB.heap.size,0,none⟩ 1 1 [.int .i64 lx,.int .i64 ly] rfl rfl (World.news_of_block (heap_new _ _)) (by simp [Value.oneCell']) (by decide) hm1 hm2 hm3 _ rfl ?_
     intro g1 cap w5 hown hgrow hat hlt5
     have HG5:=grown_trans (grown_ad _ _ _) hgrow
     have hc5:=KP.out w5 HG5
     have hf5:=KF.out w5 HG5 2
     refine hK.out _ _ (by (first | assumption | exact ⟨cz,ci⟩ | exact KT.out _ (grown_ad _ _ _) | exact KT.out _ (grown_al _ _ _) | exact KT.out _ (by assumption) | exact ⟨(World.cell?_setCell_far _ _ _ _ (fun e=>hlh (Eq.symm e))).trans (KT.out _ HG5).1,(World.cell?_setCell_far _ _ _ _ (fun e=>hlh (Eq.symm e))).trans (KT.out _ HG5).2⟩)) (fun hHeldA=>?_)
     clear hK K
     (try simp only [Act.put]);(try simp only [List.setIfInBounds_toArray]);(try simp only [List.set_cons_zero,List.set_cons_succ])
     refine tk 13 ?_
     refine rd 14 fun K hK=>?_
     (try simp only [gA,gB,gC])
     go_simp
     refine hK.out _ _ (by (first | assumption | exact ⟨cz,ci⟩ | exact KT.out _ (grown_ad _ _ _) | exact KT.out _ (grown_al _ _ _) | exact KT.out _ (by assumption) | exact ⟨(World.cell?_setCell_far _ _ _ _ (fun e=>hlh (Eq.symm e))).trans (KT.out _ HG5).1,(World.cell?_setCell_far _ _ _ _ (fun e=>hlh (Eq.symm e))).trans (KT.out _ HG5).2⟩)) (fun hHeld14=>?_)
     clear hK K
     (try simp only [Act.put]);(try simp only [List.setIfInBounds_toArray]);(try simp only [List.set_cons_zero,List.set_cons_succ])
     refine wpAnyH_done (by kernel_rfl) ?_ _
     refine NoPanic.normal ?_
     generalize hW6:World.setCell w5 _ _=w6
     have HU6:Hid (w6.cell? ⟨hb,2,none⟩=some (.slice (some ⟨g1,0,none⟩) (cnt+1) cap)):=by rw [←hW6];exact World.cell?_setCell_same (h:=hc5) ..
     have HF6:Hid (∀ j,w6.frozen? ⟨hb,j,none⟩=false):=by rw [←hW6];exact fun j=>(World.frozen?_setCell _ _ _ _).trans (KF.out w5 HG5 j)
     have hgs:w5.grownBy w6 (some hb):=by rw [←hW6];exact grown_set _ _ _ _
     have hgh:g1≠hb:=fun e=>by
      rcases hat with h | h
      ·have:=(HOB.out.lt g1 h).1;omega
      ·simp at h;omega
     have HO6:Hid (w6.ownsRow wc.heap.size 46 2 (.slice (some ⟨g1,0,none⟩) (cnt+1) cap) (keptK first nk G.ands (k+1)).length ((keptK first nk G.ands (k+1)).flatMap AndD.cells)):=by
      have:=hown.kept hgs (.inr (fun e=>hgh (by cases e;rfl)))
      show World.ownsRow _ _ _ _ _ _ _
      rw [HNX.out,List.length_append,List.flatMap_append,HCN.out];exact this
     have HG6:Hid (wc.grownBy w6 (some hb)):=grown_thru HG.out (grown_trans HGB.out HG5) hgs (fun x hx=>(HOB.out.lt x hx).1)
     have HJ6:Hid (∀ j,j≠2→w6.cell? ⟨hb,j,none⟩=wc.cell? ⟨hb,j,none⟩):=fun j hj=>by
      rw [←hW6]
      refine (World.cell?_setCell_other (h:=fun e=>hj (by cases e;rfl)) ..).trans ?_
      exact ((grown_trans HGB.out HG5).cell_far ⟨hb,j,none⟩ (by show hb<_;omega) (fun e=>by have:=(HOB.out.lt hb e.symm).1;omega)).trans (HJ.out j hj)
     clear hW6 hgs hgh hown hgrow hat hlt5 HG5 hc5 hf5 HOB HG HJ HF KP KT KF HNX hu huA RX RY HGB
     go_wp2
     go_roundw
     case measure=>simp [intOf];omega
     case rel=>exact ⟨k+1,_,by omega,by simp,HU6.out,HO6.out,HG6.out,HF6.out,HJ6.out⟩
    refine AllReadyH.cons (o:=_) rfl (fun K hK=>?_) AllReadyH.nil
    (try simp only [gA,gB,gC])
    go_simp
    refine hK.out _ _ (by (first | assumption | exact ⟨cz,ci⟩ | exact KT.out _ (grown_ad _ _ _) | exact KT.out _ (grown_al _ _ _) | exact KT.out _ (by assumption) | exact ⟨(World.cell?_setCell_far _ _ _ _ (fun e=>hlh (Eq.symm e))).trans (KT.out _ HG5).1,(World.cell?_setCell_far _ _ _ _ (fun e=>hlh (Eq.symm e))).trans (KT.out _ HG5).2⟩)) (fun hHeld11=>?_)
    clear hK K
    (try simp only [Act.put]);(try simp only [List.setIfInBounds_toArray]);(try simp only [List.set_cons_zero,List.set_cons_succ])
    refine rd 1 fun K hK=>?_
    (try simp only [gA,gB,gC])
    go_simp
    refine hK.out _ _ (by (first | assumption | exact ⟨cz,ci⟩ | exact KT.out _ (grown_ad _ _ _) | exact KT.out _ (grown_al _ _ _) | exact KT.out _ (by assumption) | exact ⟨(World.cell?_setCell_far _ _ _ _ (fun e=>hlh (Eq.symm e))).trans (KT.out _ HG5).1,(World.cell?_setCell_far _ _ _ _ (fun e=>hlh (Eq.symm e))).trans (KT.out _ HG5).2⟩)) (fun hHeld1=>?_)
    clear hK K
    (try simp only [Act.put]);(try simp only [List.setIfInBounds_toArray]);(try simp only [List.set_cons_zero,List.set_cons_succ])
    refine rd 12 fun K hK=>?_
    refine step_append_lies _ rfl (.tmp 117) (.tmp 127) 23 rfl wc.heap.size 46 i3 _ 2 16 Try.underlying23 HI2.out HZ2.out HS2.out HBY2.out rfl (by decide) u cnt _ rfl (HOB.out.alloc _).drew ⟨wB.heap.size,0,none⟩ 1 1 [.int .i64 lx,.int .i64 ly] rfl rfl (World.news_of_block (heap_new _ _)) (by simp [Value.oneCell']) (by decide) hm1 hm2 hm3 _ rfl ?_
    intro g1 cap w5 hown hgrow hat hlt5
    have HG5:=grown_trans (grown_ad _ _ _) hgrow
    have hc5:=KP.out w5 HG5
    have hf5:=KF.out w5 HG5 2
    refine hK.out _ _ (by (first | assumption | exact ⟨cz,ci⟩ | exact KT.out _ (grown_ad _ _ _) | exact KT.out _ (grown_al _ _ _) | exact KT.out _ (by assumption) | exact ⟨(World.cell?_setCell_far _ _ _ _ (fun e=>hlh (Eq.symm e))).trans (KT.out _ HG5).1,(World.cell?_setCell_far _ _ _ _ (fun e=>hlh (Eq.symm e))).trans (KT.out _ HG5).2⟩)) (fun hHeldA=>?_)
    clear hK K
    (try simp only [Act.put]);(try simp only [List.setIfInBounds_toArray]);(try simp only [List.set_cons_zero,List.set_cons_succ])
    refine tk 13 ?_
    refine rd 14 fun K hK=>?_
    (try simp only [gA,gB,gC])
    go_simp
    refine hK.out _ _ (by (first | assumption | exact ⟨cz,ci⟩ | exact KT.out _ (grown_ad _ _ _) | exact KT.out _ (grown_al _ _ _) | exact KT.out _ (by assumption) | exact ⟨(World.cell?_setCell_far _ _ _ _ (fun e=>hlh (Eq.symm e))).trans (KT.out _ HG5).1,(World.cell?_setCell_far _ _ _ _ (fun e=>hlh (Eq.symm e))).trans (KT.out _ HG5).2⟩)) (fun hHeld14=>?_)
    clear hK K
    (try simp only [Act.put]);(try simp only [List.setIfInBounds_toArray]);(try simp only [List.set_cons_zero,List.set_cons_succ])
    refine wpAnyH_done (by kernel_rfl) ?_ _
    refine NoPanic.normal ?_
    generalize hW6:World.setCell w5 _ _=w6
    have HU6:Hid (w6.cell? ⟨hb,2,none⟩=some (.slice (some ⟨g1,0,none⟩) (cnt+1) cap)):=by rw [←hW6];exact World.cell?_setCell_same (h:=hc5) ..
    have HF6:Hid (∀ j,w6.frozen? ⟨hb,j,none⟩=false):=by rw [←hW6];exact fun j=>(World.frozen?_setCell _ _ _ _).trans (KF.out w5 HG5 j)
    have hgs:w5.grownBy w6 (some hb):=by rw [←hW6];exact grown_set _ _ _ _
    have hgh:g1≠hb:=fun e=>by
     rcases hat with h | h
     ·have:=(HOB.out.lt g1 h).1;omega
     ·simp at h;omega
    have HO6:Hid (w6.ownsRow wc.heap.size 46 2 (.slice (some ⟨g1,0,none⟩) (cnt+1) cap) (keptK first nk G.ands (k+1)).length ((keptK first nk G.ands (k+1)).flatMap AndD.cells)):=by
     have:=hown.kept hgs (.inr (fun e=>hgh (by cases e;rfl)))
     show World.ownsRow _ _ _ _ _ _ _
     rw [HNX.out,List.length_append,List.flatMap_append,HCN.out];exact this
    have HG6:Hid (wc.grownBy w6 (some hb)):=grown_thru HG.out (grown_trans HGB.out HG5) hgs (fun x hx=>(HOB.out.lt x hx).1)
    have HJ6:Hid (∀ j,j≠2→w6.cell? ⟨hb,j,none⟩=wc.cell? ⟨hb,j,none⟩):=fun j hj=>by
     rw [←hW6]
     refine (World.cell?_setCell_other (h:=fun e=>hj (by cases e;rfl)) ..).trans ?_
     exact ((grown_trans HGB.out HG5).cell_far ⟨hb,j,none⟩ (by show hb<_;omega) (fun e=>by have:=(HOB.out.lt hb e.symm).1;omega)).trans (HJ.out j hj)
    clear hW6 hgs hgh hown hgrow hat hlt5 HG5 hc5 hf5 HOB HG HJ HF KP KT KF HNX hu huA RX RY HGB
    go_wp2
    go_roundw
    case measure=>simp [intOf];omega
    case rel=>exact ⟨k+1,_,by omega,by simp,HU6.out,HO6.out,HG6.out,HF6.out,HJ6.out⟩
  ·have hge:¬ ((k:Int)<(G.ands.length:Int)):=by omega
   have HEN:Hid (wr.ownsRow wc.heap.size 46 2 u (keptK first nk G.ands (G.ands.length)).length ((keptK first nk G.ands (G.ands.length)).flatMap AndD.cells)):=by
    have:=HO.out
    rw [show k=G.ands.length by omega] at this
    exact this
   clear HO
   go_wp2
   exact HK.out _ _ _ _ _ _ _ _ _ _ _ _ _ _ _ _ _ _ _ _ _ _ _ _ _ _ _ _ _ _ _ _ _ _ _ _ ⟨⟨u,HU.out,HEN.out⟩,HG.out,HJ.out,HF.out⟩
end Go.Proofs.Ytlaljeobdddegaa
