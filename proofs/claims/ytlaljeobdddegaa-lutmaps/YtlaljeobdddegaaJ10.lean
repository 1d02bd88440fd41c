import Derived.Test.YtlaljeobdddegaaJ05
import Derived.Test.YtlaljeobdddegaaJ09
namespace Go.Proofs.Ytlaljeobdddegaa
open Go.RowKit
def latH (lits:List Int) (l:LatD):List Value:=[.int .i64 (renL lits l.next),.bool l.init]
set_option maxRecDepth 100000 in
set_option maxHeartbeats 8000000 in
theorem hsLats (wc:World) (G:GrD) (lits:List Int) (B n nb hb tg:Nat) (a:Option Addr) (c:Nat) (q3:wc.cell? ⟨nb,0,none⟩=some (.slice (some ⟨tg,0,none⟩) n n)) (hnb:nb<wc.heap.size) (hnh:nb≠hb) (HR:Hid (RowAt B wc a 2 (G.lats.map LatD.cells))) (hBw:B≤wc.heap.size) (hBh:B≤hb) (hin:∀ z,z ∈ G.lats→0≤z.next∧z.next<2*(n:Int)) (hn:n≤60000) (hlen:G.lats.length≤60000) (hhb:hb<wc.heap.size) (htg:tg<wc.heap.size) (hth:tg≠hb) (HT:Hid (∀ v,v<n→wc.cell? ⟨tg,v,none⟩=some (.int .i64 (lits.getD v 0))∧0≤lits.getD v 0∧lits.getD v 0≤4000000)) (hq:wc.cell? ⟨hb,1,none⟩=some (.slice none 0 0)) (hfr:∀ j,wc.frozen? ⟨hb,j,none⟩=false) (K':Act→World→Prop) (Q0:Exit→Act→World→Prop) (x0 x1 x2 x3 x4 x5 x6 x8 x9 x11 x12 x13 x14 x15 x16 x17 x18 x19 x20 x21 x22 x23 x24 x25 x26 x27 x28 x29 x30 x31 x32 x33 x34 x35 x36 x37 x38 x39 x40 x41 x42 x43 x44 x45 x46 x47 x48 x49 x50 x51 x52 x53 x54 x55 x56 x57 x58 x59 x60 x61 x62 x63 x64 x65 x66 x67 x68 x69 x70 x74 x75 x76 x77 x78 x79 x80 x81 x82 x83 x84 x85 x86 x87 x88 x89 x90 x91 x92 x93 x94 x95 x96 x97 x98 x99 x100 x101 x102 x103 x104 x105 x106 x107 x108:Value)
  (HK:Hid (∀ (w':World) (s12 s73 s74 s75 s76 s77 s78 s79 s80 s81 s82 s83 s84 s85 s86 s87 s88 s89:Value),(∃ u,w'.cell? ⟨hb,1,none⟩=some u∧w'.ownsRow wc.heap.size 45 2 u G.lats.length (G.lats.flatMap (latH lits)))∧wc.grownBy w' (some hb)∧(∀ j,j≠1→w'.cell? ⟨hb,j,none⟩=wc.cell? ⟨hb,j,none⟩)∧(∀ j,w'.frozen? ⟨hb,j,none⟩=false)→K' ⟨#[x0,x1,x2,x3,x4,x5,x6,.func (.func 50) #[] #[.pointer (some ⟨nb,0,none⟩)],x8,x9,.pointer (some ⟨hb,0,none⟩),x11,s12,x13,x14,x15,x16,x17,x18,x19,x20,x21,x22,x23,x24,x25,x26,x27,x28,x29,x30,x31,x32,x33,x34,x35,x36,x37,x38,x39,x40,x41,x42,x43,x44,x45,x46,x47,x48,x49,x50,x51,x52,x53,x54,x55,x56,x57,x58,x59,x60,x61,x62,x63,x64,x65,x66,x67,x68,x69,x70,.slice a G.lats.length c,.int .i64 (G.lats.length:Int),s73,s74,s75,s76,s77,s78,s79,s80,s81,s82,s83,s84,s85,s86,s87,s88,s89,x90,x91,x92,x93,x94,x95,x96,x97,x98,x99,x100,x101,x102,x103,x104,x105,x106,x107,x108],[]⟩ w')) :
  Code.wp Try.prog ((Try.f33.body.bind (blockAt 4)).getD .skip) (Exit.then K' Q0) ⟨#[x0,x1,x2,x3,x4,x5,x6,.func (.func 50) #[] #[.pointer (some ⟨nb,0,none⟩)],x8,x9,.pointer (some ⟨hb,0,none⟩),x11,x12,x13,x14,x15,x16,x17,x18,x19,x20,x21,x22,x23,x24,x25,x26,x27,x28,x29,x30,x31,x32,x33,x34,x35,x36,x37,x38,x39,x40,x41,x42,x43,x44,x45,x46,x47,x48,x49,x50,x51,x52,x53,x54,x55,x56,x57,x58,x59,x60,x61,x62,x63,x64,x65,x66,x67,x68,x69,x70,.slice a G.lats.length c,.int .i64 (G.lats.length:Int),.int .i64 0,x74,x75,x76,x77,x78,x79,x80,x81,x82,x83,x84,x85,x86,x87,x88,x89,x90,x91,x92,x93,x94,x95,x96,x97,x98,x99,x100,x101,x102,x103,x104,x105,x106,x107,x108],[]⟩ wc:=by
 conv=>arg 2;whnf
 obtain ⟨i3,hi3,hz3,hs3,hb3⟩:=info_lat
 have HI2:=hidden hi3
 have HZ2:=hidden hz3
 have HS2:=hidden hs3
 have HBY2:=hidden hb3
 clear hi3 hz3 hs3 hb3
 go_wp2_with fail
 go_loopw [73] (fun i' w'=>∃ (k:Nat) (u:Value),k≤G.lats.length∧i' = .int .i64 k∧Hid (w'.cell? ⟨hb,1,none⟩=some u)∧Hid (w'.ownsRow wc.heap.size 45 2 u k ((G.lats.take k).flatMap (latH lits)))∧Hid (wc.grownBy w' (some hb))∧Hid (∀ j,w'.frozen? ⟨hb,j,none⟩=false)∧Hid (∀ j,j≠1→w'.cell? ⟨hb,j,none⟩=wc.cell? ⟨hb,j,none⟩)) (fun i' _=>G.lats.length - (intOf i').toNat)
 case atStart=>exact ⟨0,_,Nat.zero_le _,rfl,hq,World.ownsRow_nil _ _ _ _,grown_refl _ _,hfr,fun _ _=>rfl⟩
 case round =>
  obtain ⟨k,u,hk,rfl,HU,HO,HG,HF,HJ⟩:=hrel
  by_cases hlt:k<G.lats.length
  ·obtain ⟨z,hz⟩:∃ z,G.lats[k]?=some z:=getElem_lt hlt
   obtain ⟨rb,ro,ea,hrb,hrc⟩:=HR.out.el hz
   subst ea
   obtain ⟨z,zi⟩:=z
   have hrw:rb<wc.heap.size:=Nat.lt_of_lt_of_le hrb hBw
   have c1:wr.cell? ⟨rb,ro+k*2,none⟩=some (.int .i64 z):=(HG.out.cell_far _ hrw (by simp;omega)).trans (hrc 0 _ rfl)
   have c2:wr.cell? ⟨rb,ro+k*2+1,none⟩=some (.bool zi):=(HG.out.cell_far _ hrw (by simp;omega)).trans (hrc 1 _ rfl)
   have hzi:=hin _ (List.mem_of_getElem? hz)
   simp only at hzi
   have hsz:=HG.out.size
   have hltI:(k:Int)<(G.lats.length:Int):=by omega
   go_upto_region 19 with fail
   generalize hWA:World.alloc wr _=wA
   obtain ⟨lb,hlb⟩:∃ x,x=wr.heap.size:=⟨_,rfl⟩
   have HGA:Hid (wr.grownBy wA u.ownBlock):=by rw [←hWA];exact alH _ _ _
   have HBA:Hid (Below wr.heap.size wr wA):=by rw [←hWA];exact (Below.refl _ _).alloc (Nat.le_refl _) _
   have HLA:Hid (wA.cell? ⟨lb,0,none⟩=some (.int .i64 z)∧wA.cell? ⟨lb,1,none⟩=some (.bool zi)):=by
    rw [←hWA,hlb];exact ⟨cell_new rfl,cell_new rfl⟩
   have hlA:lb<wA.heap.size:=by rw [←hWA,hlb];simp
   have hlc:wc.heap.size≤lb:=by omega
   have hlr:wr.heap.size≤lb:=by omega
   rw [←hlb]
   have far:∀ x,x<wc.heap.size→some x≠u.ownBlock:=fun x hx e=>by have:=(HO.out.lt x e.symm).1;omega
   clear hWA hlb c1 c2
   obtain ⟨wB,hWB⟩:∃ x,x=wA:=⟨_,rfl⟩
   rw [←hWB]
   have HGB:Hid (wr.grownBy wB u.ownBlock):=by rw [hWB];exact HGA.out
   have hsB:wA.heap.size≤wB.heap.size:=by rw [hWB];exact Nat.le_refl _
   have cz:wB.cell? ⟨lb,0,none⟩=some (.int .i64 z):=by rw [hWB];exact HLA.out.1
   have ci:wB.cell? ⟨lb,1,none⟩=some (.bool zi):=by rw [hWB];exact HLA.out.2
   have HOB:Hid (wB.ownsRow wc.heap.size 45 2 u k ((G.lats.take k).flatMap (latH lits))):=by
    rw [hWB]
    exact own_below HO.out HBA.out
   have huB:wB.cell? ⟨hb,1,none⟩=some u:=(HGB.out.cell_far ⟨hb,1,none⟩ (by show hb<_;omega) (far hb hhb)).trans HU.out
   have HFB:Hid (∀ j,wB.frozen? ⟨hb,j,none⟩=false):=fun j=>(HGB.out.frozen_far ⟨hb,j,none⟩ (by show hb<_;omega) (far hb hhb)).trans (HF.out j)
   have RN:Hid (Calls Try.prog 50 #[.int .i64 z,.pointer (some ⟨nb,0,none⟩)] wB.drew fun e w'=>e = .returned (.int .i64 (renL lits z))∧w'=wB.drew) :=
    ren_lits wB.drew nb tg n lits ((HGB.out.cell_far ⟨nb,0,none⟩ (by show nb<_;omega) (far nb hnb)).trans ((HG.out.cell_far ⟨nb,0,none⟩ hnb (by simp;omega)).trans q3)) hn (fun v hv=>⟨(HGB.out.cell_far ⟨tg,v,none⟩ (by show tg<_;omega) (far tg htg)).trans ((HG.out.cell_far ⟨tg,v,none⟩ htg (by simp;omega)).trans (HT.out v hv).1),(HT.out v hv).2⟩) z hzi.1 hzi.2
   have HNX:Hid ((G.lats.take (k+1)).flatMap (latH lits)=(G.lats.take k).flatMap (latH lits)++[.int .i64 (renL lits z),.bool zi]):=by
    show _=_
    rw [take_snoc hz,List.flatMap_append];rfl
   generalize renL lits z=lt at *
   have e3:IntKind.i64.wrap ((k:Int)+1)=(k:Int)+1:=wrapI _ (by omega) (by omega)
   have hm1:k+1≤maxLen:=by simp only [maxLen];omega
   have hm2:(k+1)*16≤140737488355328:=by omega
   have hm3:wc.heap.size≤((wB.alloc (.cells #[.int .i64 lt,.bool zi] 45)).drew).heap.size:=by simp;omega
   have hlh:lb≠hb:=by omega
   have hul:some lb≠u.ownBlock:=fun e=>by have:=(HO.out.lt lb e.symm).2;omega
   clear hrc hz hzi hWB HGA HLA HO HU
   have hu:=huB
   have KP:Hid (∀ w',wB.grownBy w' u.ownBlock→w'.cell? ⟨hb,1,none⟩=some u):=fun w' hg=>(hg.cell_far ⟨hb,1,none⟩ (by show hb<_;omega) (far hb hhb)).trans huB
   have KT:Hid (∀ w',wB.grownBy w' u.ownBlock→w'.cell? ⟨lb,0,none⟩=some (.int .i64 z)∧w'.cell? ⟨lb,1,none⟩=some (.bool zi)):=fun w' hg=>⟨(hg.cell_far ⟨lb,0,none⟩ (by show lb<_;omega) hul).trans cz,(hg.cell_far ⟨lb,1,none⟩ (by show lb<_;omega) hul).trans ci⟩
   have KF:Hid (∀ w',wB.grownBy w' u.ownBlock→∀ j,w'.frozen? ⟨hb,j,none⟩=false):=fun w' hg j=>(hg.frozen_far ⟨hb,j,none⟩ (by show hb<_;omega) (far hb hhb)).trans (HFB.out j)
   have huA:(wB.alloc (.cells #[.int .i64 lt,.bool zi] 45)).cell? ⟨hb,1,none⟩=some u:=KP.out _ (alH _ _ _)
   clear huB HFB
   refine wp_region_noPanic ?_
   refine wp_region_held_drew (S:=(fun w'=>w'.cell? ⟨lb,0,none⟩=some (.int .i64 z)∧w'.cell? ⟨lb,1,none⟩=some (.bool zi))) (by kernel_rfl) (by (first | assumption | exact ⟨cz,ci⟩ | exact KT.out _ (adH _ _ _) | exact KT.out _ (alH _ _ _) | exact KT.out _ (by assumption) | exact ⟨(World.cell?_setCell_far _ _ _ _ (fun e=>hlh (Eq.symm e))).trans (KT.out _ HG5).1,(World.cell?_setCell_far _ _ _ _ (fun e=>hlh (Eq.symm e))).trans (KT.out _ HG5).2⟩)) (fun hHeld=>?_)
   refine tk 0 ?_
   refine tk 2 ?_
   refine tk 3 ?_
   refine tk 4 ?_
   refine tk 6 ?_
   refine tk 7 ?_
   refine wpAnyH_ready (rs:=[1,5]) (by kernel_rfl) (by simp) ?_
   refine AllReadyH.cons (o:=_) rfl (fun K hK=>?_) ?_
   ·(try simp only [gA,gB,gC])
    go_simp
    refine hK.out _ _ (by (first | assumption | exact ⟨cz,ci⟩ | exact KT.out _ (adH _ _ _) | exact KT.out _ (alH _ _ _) | exact KT.out _ (by assumption) | exact ⟨(World.cell?_setCell_far _ _ _ _ (fun e=>hlh (Eq.symm e))).trans (KT.out _ HG5).1,(World.cell?_setCell_far _ _ _ _ (fun e=>hlh (Eq.symm e))).trans (KT.out _ HG5).2⟩)) (fun hHeld1=>?_)
    clear hK K
    (try simp only [Act.put]);(try simp only [List.setIfInBounds_toArray]);(try simp only [List.set_cons_zero,List.set_cons_succ])
    refine rd 5 fun K hK=>?_
    (try simp only [gA,gB,gC])
    go_simp
    go_at_call 50
    refine RN.out.mono ?_
    rintro e w2 ⟨rfl,rfl⟩
    go_wp2_with fail
    refine hK.out _ _ (by (first | assumption | exact ⟨cz,ci⟩ | exact KT.out _ (adH _ _ _) | exact KT.out _ (alH _ _ _) | exact KT.out _ (by assumption) | exact ⟨(World.cell?_setCell_far _ _ _ _ (fun e=>hlh (Eq.symm e))).trans (KT.out _ HG5).1,(World.cell?_setCell_far _ _ _ _ (fun e=>hlh (Eq.symm e))).trans (KT.out _ HG5).2⟩)) (fun hHeld5=>?_)
    clear hK K
    (try simp only [Act.put]);(try simp only [List.setIfInBounds_toArray]);(try simp only [List.set_cons_zero,List.set_cons_succ])
    refine tk 8 ?_
    refine rd 9 fun K hK=>?_
    (try simp only [gA,gB,gC])
    go_simp
    refine hK.out _ _ (by (first | assumption | exact ⟨cz,ci⟩ | exact KT.out _ (adH _ _ _) | exact KT.out _ (alH _ _ _) | exact KT.out _ (by assumption) | exact ⟨(World.cell?_setCell_far _ _ _ _ (fun e=>hlh (Eq.symm e))).trans (KT.out _ HG5).1,(World.cell?_setCell_far _ _ _ _ (fun e=>hlh (Eq.symm e))).trans (KT.out _ HG5).2⟩)) (fun hHeld9=>?_)
    clear hK K
    (try simp only [Act.put]);(try simp only [List.setIfInBounds_toArray]);(try simp only [List.set_cons_zero,List.set_cons_succ])
    refine rd 10 fun K hK=>?_
    refine step_append_lies _ rfl (.tmp 78) (.tmp 86) 22 rfl wc.heap.size 45 i3 _ 2 16 Try.underlying22 HI2.out HZ2.out HS2.out HBY2.out rfl (by decide) u k _ rfl (HOB.out.alloc _).drew ⟨wB.heap.size,0,none⟩ 1 1 [.int .i64 lt,.bool zi] rfl rfl (World.news_of_block (heap_new _ _)) (by simp [Value.oneCell']) (by decide) hm1 hm2 hm3 _ rfl ?_
    intro g1 cap w5 hown hgrow hat hlt5
    have HG5:=grown_trans (adH _ _ _) hgrow
    have hc5:=KP.out w5 HG5
    have hf5:=KF.out w5 HG5 1
    refine hK.out _ _ (by (first | assumption | exact ⟨cz,ci⟩ | exact KT.out _ (adH _ _ _) | exact KT.out _ (alH _ _ _) | exact KT.out _ (by assumption) | exact ⟨(World.cell?_setCell_far _ _ _ _ (fun e=>hlh (Eq.symm e))).trans (KT.out _ HG5).1,(World.cell?_setCell_far _ _ _ _ (fun e=>hlh (Eq.symm e))).trans (KT.out _ HG5).2⟩)) (fun hHeldA=>?_)
    clear hK K
    (try simp only [Act.put]);(try simp only [List.setIfInBounds_toArray]);(try simp only [List.set_cons_zero,List.set_cons_succ])
    refine tk 11 ?_
    refine rd 12 fun K hK=>?_
    (try simp only [gA,gB,gC])
    go_simp
    refine hK.out _ _ (by (first | assumption | exact ⟨cz,ci⟩ | exact KT.out _ (adH _ _ _) | exact KT.out _ (alH _ _ _) | exact KT.out _ (by assumption) | exact ⟨(World.cell?_setCell_far _ _ _ _ (fun e=>hlh (Eq.symm e))).trans (KT.out _ HG5).1,(World.cell?_setCell_far _ _ _ _ (fun e=>hlh (Eq.symm e))).trans (KT.out _ HG5).2⟩)) (fun hHeld12=>?_)
    clear hK K
    (try simp only [Act.put]);(try simp only [List.setIfInBounds_toArray]);(try simp only [List.set_cons_zero,List.set_cons_succ])
    refine wpAnyH_done (by kernel_rfl) ?_ _
    refine NoPanic.normal ?_
    generalize hW6:World.setCell w5 _ _=w6
    have HU6:Hid (w6.cell? ⟨hb,1,none⟩=some (.slice (some ⟨g1,0,none⟩) (k+1) cap)):=by rw [←hW6];exact World.cell?_setCell_same (h:=hc5) ..
    have HF6:Hid (∀ j,w6.frozen? ⟨hb,j,none⟩=false):=by rw [←hW6];exact fun j=>(World.frozen?_setCell _ _ _ _).trans (KF.out w5 HG5 j)
    have hgs:w5.grownBy w6 (some hb):=by rw [←hW6];exact setH _ _ _ _
    have hgh:g1≠hb:=fun e=>by
     rcases hat with h | h
     ·have:=(HOB.out.lt g1 h).1;omega
     ·simp at h;omega
    have HO6:Hid (w6.ownsRow wc.heap.size 45 2 (.slice (some ⟨g1,0,none⟩) (k+1) cap) (k+1) ((G.lats.take (k+1)).flatMap (latH lits))):=by
     have:=hown.kept hgs (.inr (fun e=>hgh (by cases e;rfl)))
     rw [HNX.out];exact this
    have HG6:Hid (wc.grownBy w6 (some hb)):=thruH HG.out (grown_trans HGB.out HG5) hgs (fun x hx=>(HOB.out.lt x hx).1)
    have HJ6:Hid (∀ j,j≠1→w6.cell? ⟨hb,j,none⟩=wc.cell? ⟨hb,j,none⟩):=fun j hj=>by
     rw [←hW6]
     refine (World.cell?_setCell_other (h:=fun e=>hj (by cases e;rfl)) ..).trans ?_
     exact ((grown_trans HGB.out HG5).cell_far ⟨hb,j,none⟩ (by show hb<_;omega) (fun e=>by have:=(HOB.out.lt hb e.symm).1;omega)).trans (HJ.out j hj)
    clear hW6 hgs hgh hown hgrow hat hlt5 HG5 hc5 hf5 HOB HG HJ HF KP KT KF HNX hu huA RN HGB
    go_wp2
    go_roundw
    case measure=>simp [intOf];omega
    case rel=>exact ⟨k+1,_,by omega,by simp,HU6.out,HO6.out,HG6.out,HF6.out,HJ6.out⟩
   refine AllReadyH.cons (o:=_) rfl (fun K hK=>?_) AllReadyH.nil
   (try simp only [gA,gB,gC])
   go_simp
   go_at_call 50
   refine RN.out.mono ?_
   rintro e w2 ⟨rfl,rfl⟩
   go_wp2_with fail
   refine hK.out _ _ (by (first | assumption | exact ⟨cz,ci⟩ | exact KT.out _ (adH _ _ _) | exact KT.out _ (alH _ _ _) | exact KT.out _ (by assumption) | exact ⟨(World.cell?_setCell_far _ _ _ _ (fun e=>hlh (Eq.symm e))).trans (KT.out _ HG5).1,(World.cell?_setCell_far _ _ _ _ (fun e=>hlh (Eq.symm e))).trans (KT.out _ HG5).2⟩)) (fun hHeld5=>?_)
   clear hK K
   (try simp only [Act.put]);(try simp only [List.setIfInBounds_toArray]);(try simp only [List.set_cons_zero,List.set_cons_succ])
   refine tk 8 ?_
   refine wpAnyH_ready (rs:=[1,9]) (by kernel_rfl) (by simp) ?_
   refine AllReadyH.cons (o:=_) rfl (fun K hK=>?_) ?_
   ·(try simp only [gA,gB,gC])
    go_simp
    refine hK.out _ _ (by (first | assumption | exact ⟨cz,ci⟩ | exact KT.out _ (adH _ _ _) | exact KT.out _ (alH _ _ _) | exact KT.out _ (by assumption) | exact ⟨(World.cell?_setCell_far _ _ _ _ (fun e=>hlh (Eq.symm e))).trans (KT.out _ HG5).1,(World.cell?_setCell_far _ _ _ _ (fun e=>hlh (Eq.symm e))).trans (KT.out _ HG5).2⟩)) (fun hHeld1=>?_)
    clear hK K
    (try simp only [Act.put]);(try simp only [List.setIfInBounds_toArray]);(try simp only [List.set_cons_zero,List.set_cons_succ])
    refine rd 9 fun K hK=>?_
    (try simp only [gA,gB,gC])
    go_simp
    refine hK.out _ _ (by (first | assumption | exact ⟨cz,ci⟩ | exact KT.out _ (adH _ _ _) | exact KT.out _ (alH _ _ _) | exact KT.out _ (by assumption) | exact ⟨(World.cell?_setCell_far _ _ _ _ (fun e=>hlh (Eq.symm e))).trans (KT.out _ HG5).1,(World.cell?_setCell_far _ _ _ _ (fun e=>hlh (Eq.symm e))).trans (KT.out _ HG5).2⟩)) (fun hHeld9=>?_)
    clear hK K
    (try simp only [Act.put]);(try simp only [List.setIfInBounds_toArray]);(try simp only [List.set_cons_zero,List.set_cons_succ])
    refine rd 10 fun K hK=>?_
    refine step_append_lies _ rfl (.tmp 78) (.tmp 86) 22 rfl wc.heap.size 45 i3 _ 2 16 Try.underlying22 HI2.out HZ2.out HS2.out HBY2.out rfl (by decide) u k _ rfl (HOB.out.alloc _).drew ⟨wB.heap.size,0,none⟩ 1 1 [.int .i64 lt,.bool zi] rfl rfl (World.news_of_block (heap_new _ _)) (by simp [Value.oneCell']) (by decide) hm1 hm2 hm3 _ rfl ?_
    intro g1 cap w5 hown hgrow hat hlt5
    have HG5:=grown_trans (adH _ _ _) hgrow
    have hc5:=KP.out w5 HG5
    have hf5:=KF.out w5 HG5 1
    refine hK.out _ _ (by (first | assumption | exact ⟨cz,ci⟩ | exact KT.out _ (adH _ _ _) | exact KT.out _ (alH _ _ _) | exact KT.out _ (by assumption) | exact ⟨(World.cell?_setCell_far _ _ _ _ (fun e=>hlh (Eq.symm e))).trans (KT.out _ HG5).1,(World.cell?_setCell_far _ _ _ _ (fun e=>hlh (Eq.symm e))).trans (KT.out _ HG5).2⟩)) (fun hHeldA=>?_)
    clear hK K
    (try simp only [Act.put]);(try simp only [List.setIfInBounds_toArray]);(try simp only [List.set_cons_zero,List.set_cons_succ])
    refine tk 11 ?_
    refine rd 12 fun K hK=>?_
    (try simp only [gA,gB,gC])
    go_simp
    refine hK.out _ _ (by (first | assumption | exact ⟨cz,ci⟩ | exact KT.out _ (adH _ _ _) | exact KT.out _ (alH _ _ _) | exact KT.out _ (by assumption) | exact ⟨(World.cell?_setCell_far _ _ _ _ (fun e=>hlh (Eq.symm e))).trans (KT.out _ HG5).1,(World.cell?_setCell_far _ _ _ _ (fun e=>hlh (Eq.symm e))).trans (KT.out _ HG5).2⟩)) (fun hHeld12=>?_)
    clear hK K
    (try simp only [Act.put]);(try simp only [List.setIfInBounds_toArray]);(try simp only [List.set_cons_zero,List.set_cons_succ])
    refine wpAnyH_done (by kernel_rfl) ?_ _
    refine NoPanic.normal ?_
    generalize hW6:World.setCell w5 _ _=w6
    have HU6:Hid (w6.cell? ⟨hb,1,none⟩=some (.slice (some ⟨g1,0,none⟩) (k+1) cap)):=by rw [←hW6];exact World.cell?_setCell_same (h:=hc5) ..
    have HF6:Hid (∀ j,w6.frozen? ⟨hb,j,none⟩=false):=by rw [←hW6];exact fun j=>(World.frozen?_setCell _ _ _ _).trans (KF.out w5 HG5 j)
    have hgs:w5.grownBy w6 (some hb):=by rw [←hW6];exact setH _ _ _ _
    have hgh:g1≠hb:=fun e=>by
     rcases hat with h | h
     ·have:=(HOB.out.lt g1 h).1;omega
     ·simp at h;omega
    have HO6:Hid (w6.ownsRow wc.heap.size 45 2 (.slice (some ⟨g1,0,none⟩) (k+1) cap) (k+1) ((G.lats.take (k+1)).flatMap (latH lits))):=by
     have:=hown.kept hgs (.inr (fun e=>hgh (by cases e;rfl)))
     rw [HNX.out];exact this
    have HG6:Hid (wc.grownBy w6 (some hb)):=thruH HG.out (grown_trans HGB.out HG5) hgs (fun x hx=>(HOB.out.lt x hx).1)
    have HJ6:Hid (∀ j,j≠1→w6.cell? ⟨hb,j,none⟩=wc.cell? ⟨hb,j,none⟩):=fun j hj=>by
     rw [←hW6]
     refine (World.cell?_setCell_other (h:=fun e=>hj (by cases e;rfl)) ..).trans ?_
     exact ((grown_trans HGB.out HG5).cell_far ⟨hb,j,none⟩ (by show hb<_;omega) (fun e=>by have:=(HOB.out.lt hb e.symm).1;omega)).trans (HJ.out j hj)
    clear hW6 hgs hgh hown hgrow hat hlt5 HG5 hc5 hf5 HOB HG HJ HF KP KT KF HNX hu huA RN HGB
    go_wp2
    go_roundw
    case measure=>simp [intOf];omega
    case rel=>exact ⟨k+1,_,by omega,by simp,HU6.out,HO6.out,HG6.out,HF6.out,HJ6.out⟩
   refine AllReadyH.cons (o:=_) rfl (fun K hK=>?_) AllReadyH.nil
   (try simp only [gA,gB,gC])
   go_simp
   refine hK.out _ _ (by (first | assumption | exact ⟨cz,ci⟩ | exact KT.out _ (adH _ _ _) | exact KT.out _ (alH _ _ _) | exact KT.out _ (by assumption) | exact ⟨(World.cell?_setCell_far _ _ _ _ (fun e=>hlh (Eq.symm e))).trans (KT.out _ HG5).1,(World.cell?_setCell_far _ _ _ _ (fun e=>hlh (Eq.symm e))).trans (KT.out _ HG5).2⟩)) (fun hHeld9=>?_)
   clear hK K
   (try simp only [Act.put]);(try simp only [List.setIfInBounds_toArray]);(try simp only [List.set_cons_zero,List.set_cons_succ])
   refine rd 1 fun K hK=>?_
   (try simp only [gA,gB,gC])
   go_simp
   refine hK.out _ _ (by (first | assumption | exact ⟨cz,ci⟩ | exact KT.out _ (adH _ _ _) | exact KT.out _ (alH _ _ _) | exact KT.out _ (by assumption) | exact ⟨(World.cell?_setCell_far _ _ _ _ (fun e=>hlh (Eq.symm e))).trans (KT.out _ HG5).1,(World.cell?_setCell_far _ _ _ _ (fun e=>hlh (Eq.symm e))).trans (KT.out _ HG5).2⟩)) (fun hHeld1=>?_)
   clear hK K
   (try simp only [Act.put]);(try simp only [List.setIfInBounds_toArray]);(try simp only [List.set_cons_zero,List.set_cons_succ])
   refine rd 10 fun K hK=>?_
   refine step_append_lies _ rfl (.tmp 78) (.tmp 86) 22 rfl wc.heap.size 45 i3 _ 2 16 Try.underlying22 HI2.out HZ2.out HS2.out HBY2.out rfl (by decide) u k _ rfl (HOB.out.alloc _).drew ⟨wB.heap.size,0,none⟩ 1 1 [.int .i64 lt,.bool zi] rfl rfl (World.news_of_block (heap_new _ _)) (by simp [Value.oneCell']) (by decide) hm1 hm2 hm3 _ rfl ?_
   intro g1 cap w5 hown hgrow hat hlt5
   have HG5:=grown_trans (adH _ _ _) hgrow
   have hc5:=KP.out w5 HG5
   have hf5:=KF.out w5 HG5 1
   refine hK.out _ _ (by (first | assumption | exact ⟨cz,ci⟩ | exact KT.out _ (adH _ _ _) | exact KT.out _ (alH _ _ _) | exact KT.out _ (by assumption) | exact ⟨(World.cell?_setCell_far _ _ _ _ (fun e=>hlh (Eq.symm e))).trans (KT.out _ HG5).1,(World.cell?_setCell_far _ _ _ _ (fun e=>hlh (Eq.symm e))).trans (KT.out _ HG5).2⟩)) (fun hHeldA=>?_)
   clear hK K
   (try simp only [Act.put]);(try simp only [List.setIfInBounds_toArray]);(try simp only [List.set_cons_zero,List.set_cons_succ])
   refine tk 11 ?_
   refine rd 12 fun K hK=>?_
   (try simp only [gA,gB,gC])
   go_simp
   refine hK.out _ _ (by (first | assumption | exact ⟨cz,ci⟩ | exact KT.out _ (adH _ _ _) | exact KT.out _ (alH _ _ _) | exact KT.out _ (by assumption) | exact ⟨(World.cell?_setCell_far _ _ _ _ (fun e=>hlh (Eq.symm e))).trans (KT.out _ HG5).1,(World.cell?_setCell_far _ _ _ _ (fun e=>hlh (Eq.symm e))).trans (KT.out _ HG5).2⟩)) (fun hHeld12=>?_)
   clear hK K
   (try simp only [Act.put]);(try simp only [List.setIfInBounds_toArray]);(try simp only [List.set_cons_zero,List.set_cons_succ])
   refine wpAnyH_done (by kernel_rfl) ?_ _
   refine NoPanic.normal ?_
   generalize hW6:World.setCell w5 _ _=w6
   have HU6:Hid (w6.cell? ⟨hb,1,none⟩=some (.slice (some ⟨g1,0,none⟩) (k+1) cap)):=by rw [←hW6];exact World.cell?_setCell_same (h:=hc5) ..
   have HF6:Hid (∀ j,w6.frozen? ⟨hb,j,none⟩=false):=by rw [←hW6];exact fun j=>(World.frozen?_setCell _ _ _ _).trans (KF.out w5 HG5 j)
   have hgs:w5.grownBy w6 (some hb):=by rw [←hW6];exact setH _ _ _ _
   have hgh:g1≠hb:=fun e=>by
    rcases hat with h | h
    ·have:=(HOB.out.lt g1 h).1;omega
    ·simp at h;omega
   have HO6:Hid (w6.ownsRow wc.heap.size 45 2 (.slice (some ⟨g1,0,none⟩) (k+1) cap) (k+1) ((G.lats.take (k+1)).flatMap (latH lits))):=by
    have:=hown.kept hgs (.inr (fun e=>hgh (by cases e;rfl)))
    rw [HNX.out];exact this
   have HG6:Hid (wc.grownBy w6 (some hb)):=thruH HG.out (grown_trans HGB.out HG5) hgs (fun x hx=>(HOB.out.lt x hx).1)
   have HJ6:Hid (∀ j,j≠1→w6.cell? ⟨hb,j,none⟩=wc.cell? ⟨hb,j,none⟩):=fun j hj=>by
    rw [←hW6]
    refine (World.cell?_setCell_other (h:=fun e=>hj (by cases e;rfl)) ..).trans ?_
    exact ((grown_trans HGB.out HG5).cell_far ⟨hb,j,none⟩ (by show hb<_;omega) (fun e=>by have:=(HOB.out.lt hb e.symm).1;omega)).trans (HJ.out j hj)
   clear hW6 hgs hgh hown hgrow hat hlt5 HG5 hc5 hf5 HOB HG HJ HF KP KT KF HNX hu huA RN HGB
   go_wp2
   go_roundw
   case measure=>simp [intOf];omega
   case rel=>exact ⟨k+1,_,by omega,by simp,HU6.out,HO6.out,HG6.out,HF6.out,HJ6.out⟩
  ·have hge:¬ ((k:Int)<(G.lats.length:Int)):=by omega
   have HEN:Hid (wr.ownsRow wc.heap.size 45 2 u G.lats.length (G.lats.flatMap (latH lits))):=by
    have:=HO.out
    rw [List.take_of_length_le (by omega),show k=G.lats.length by omega] at this
    exact this
   clear HO
   go_wp2
   exact HK.out _ _ _ _ _ _ _ _ _ _ _ _ _ _ _ _ _ _ _ ⟨⟨u,HU.out,HEN.out⟩,HG.out,HJ.out,HF.out⟩
end Go.Proofs.Ytlaljeobdddegaa
