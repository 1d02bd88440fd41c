import Derived.Test.YtlaljeobdddegaaJ05
import Derived.Test.YtlaljeobdddegaaJ07
namespace Go.Proofs.Ytlaljeobdddegaa
open Go.RowKit
set_option maxRecDepth 100000 in
set_option maxHeartbeats 8000000 in
theorem and_lt (C:Nat) (w:World) (gb mb first:Nat) (hs:List AndD) (u:Value) (h:GtAt C w gb mb first hs u) (H:HsOk first hs) (hlen:first+hs.length≤1000000) (a b:Int) (ha:0≤a∧a<2*((first:Int)+(hs.length:Int))) (hb:0≤b∧b<2*((first:Int)+(hs.length:Int))) (hab:a<b) :
  Calls Try.prog 51 #[.pointer (some ⟨gb,0,none⟩),.int .i64 a,.int .i64 b] w fun e w'=>e = .returned (.int .i64 (andH first hs a b).2)∧(∃ u',GtAt C w' gb mb first (andH first hs a b).1 u')∧Grew w w' gb mb u.ownBlock:=by
 have HG:=hidden h
 have OP:Hid (∀ w,Calls Try.prog 65 #[.int .i64 a] w fun e w'=>e = .returned (.int .i64 (flipI a))∧w'=w):=fun w=>opposite_any a (by omega) (by omega) w
 have emx:Hid (max a b=b):=by show _=_;omega
 have emn:Hid (min a b=a):=by show _=_;omega
 by_cases h0:a=0
 ·rw [andH_no emx.out emn.out (.inl h0)]
  subst h0
  go_enter Try.func51,Try.ntmps51
  go_wp2
  go_quiet (fail)
  go_wp2
  refine bodyPost_ret (v:=.int .i64 0) (by simp [results,Try.results51,go_sem]) rfl ⟨rfl,HG.out.same ?_⟩
  exact Below.drewN ((Below.refl _ _).alloc (Nat.le_refl _) _) _
 by_cases h1:b=flipI a
 ·rw [andH_no emx.out emn.out (.inr h1)]
  have h1b:(b == flipI a)=true:=by simpa using h1
  go_enter Try.func51,Try.ntmps51
  go_wp2
  go_quiet ((go_at_call 65;exact Calls.quiet_of_same (OP.out _)))
  go_wp2
  refine bodyPost_ret (v:=.int .i64 0) (by simp [results,Try.results51,go_sem]) rfl ⟨rfl,HG.out.same ?_⟩
  exact Below.drewN ((Below.refl _ _).alloc (Nat.le_refl _) _) _
 have h1b:(b == flipI a)=false:=by simpa using h1
 have hno:¬ (a=0∨b=flipI a):=fun e=>e.elim h0 h1
 by_cases h2:a=1
 ·rw [andH_top emx.out emn.out hno (.inl h2)]
  clear emx emn hno h0
  subst h2
  go_enter Try.func51,Try.ntmps51
  go_wp2
  go_quiet ((go_at_call 65;exact Calls.quiet_of_same (OP.out _)))
  go_wp2
  refine bodyPost_ret (v:=.int .i64 b) (by simp [results,Try.results51,go_sem]) rfl ⟨rfl,HG.out.same ?_⟩
  exact Below.drewN ((Below.refl _ _).alloc (Nat.le_refl _) _) _
 have h3:¬ b=a:=by omega
 have hn2:¬ (a=1∨b=a):=fun e=>e.elim h2 h3
 have h2b:(a == 1)=false:=by simpa using h2
 have h3b:(b == a)=false:=by simpa using h3
 have hc2:=h.c2
 have hlt:=h.lt
 have LOOK:Hid (∀ n,(findG hs b a=none∧(Instr.lookup 101 (.map (some mb)) (keyV b a) true).run Try.prog ((w.alloc (.cells #[.int .i64 b,.int .i64 a] 46)).drewN n) = .ok (.tuple #[.int .i64 0,.bool false]) ((w.alloc (.cells #[.int .i64 b,.int .i64 a] 46)).drewN n)) ∨
  ∃ i,findG hs b a=some i∧(Instr.lookup 101 (.map (some mb)) (keyV b a) true).run Try.prog ((w.alloc (.cells #[.int .i64 b,.int .i64 a] 46)).drewN n) = .ok (.tuple #[.int .i64 (2*((first:Int)+(i:Int))),.bool true]) ((w.alloc (.cells #[.int .i64 b,.int .i64 a] 46)).drewN n)):=fun n =>
  known_look H (by omega) ((h.to (Below.drewN ((Below.refl _ _).alloc (Nat.le_refl _) _) n)).kn) b a (by omega) (by omega)
 cases hf:findG hs b a with
 | some i =>
  rw [andH_some emx.out emn.out hno hn2 hf]
  have LK:∀ n,(Instr.lookup 101 (.map (some mb)) (.agg #[.int .i64 b,.int .i64 a]) true).run Try.prog ((w.alloc (.cells #[.int .i64 b,.int .i64 a] 46)).drewN n) = .ok (.tuple #[.int .i64 (2*((first:Int)+(i:Int))),.bool true]) ((w.alloc (.cells #[.int .i64 b,.int .i64 a] 46)).drewN n):=fun n=>by
   rcases LOOK.out n with ⟨e,_⟩ | ⟨j,e,hr⟩
   ·rw [hf] at e;cases e
   ·rw [hf] at e;cases e;exact hr
  clear emx emn hno LOOK h H hf hn2
  go_enter Try.func51,Try.ntmps51
  go_wp2
  go_quiet ((go_at_call 65;exact Calls.quiet_of_same (OP.out _)))
  go_wp2
  go_quiet (fail)
  go_wp2
  refine bodyPost_ret (v:=.int .i64 (2*((first:Int)+(i:Int)))) (by simp [results,Try.results51,go_sem]) rfl ⟨rfl,HG.out.same ?_⟩
  exact Below.drewN ((Below.refl _ _).alloc (Nat.le_refl _) _) _
 | none =>
  rw [andH_none emx.out emn.out hno hn2 hf]
  have LK:∀ n,(Instr.lookup 101 (.map (some mb)) (.agg #[.int .i64 b,.int .i64 a]) true).run Try.prog ((w.alloc (.cells #[.int .i64 b,.int .i64 a] 46)).drewN n) = .ok (.tuple #[.int .i64 0,.bool false]) ((w.alloc (.cells #[.int .i64 b,.int .i64 a] 46)).drewN n):=fun n=>by
   rcases LOOK.out n with ⟨e,hr⟩ | ⟨j,e,hr⟩
   ·exact hr
   ·rw [hf] at e;cases e
  obtain ⟨ua,uc,hu⟩:=row_slice h.ow
  subst hu
  obtain ⟨i3,hi3,hz3,hs3,hb3⟩:=info_pair
  have HI2:=hidden hi3
  have HZ2:=hidden hz3
  have HS2:=hidden hs3
  have HBY2:=hidden hb3
  clear hi3 hz3 hs3 hb3
  have HH:=hidden H
  have HFN:=hidden hf
  have hc0:=h.c0
  have hc1:=h.c1
  have hl1:((hs.length:Int) == 1048576)=false:=by simp;omega
  have w1:IntKind.i64.wrap ((first:Int)+(hs.length:Int))=(first:Int)+(hs.length:Int):=wrapI _ (by omega) (by omega)
  have w2:IntKind.i64.wrap (2*((first:Int)+(hs.length:Int)))=2*((first:Int)+(hs.length:Int)):=wrapI _ (by omega) (by omega)
  clear emx emn hno LOOK h H hf hn2
  go_enter Try.func51,Try.ntmps51
  go_wp2
  go_quiet ((go_at_call 65;exact Calls.quiet_of_same (OP.out _)))
  go_wp2
  go_quiet (fail)
  go_wp2
  go_quiet (fail)
  go_wp2
  clear LK
  generalize hWr:World.drewN _ _=wr
  have hbw:Below w.heap.size w wr:=by rw [←hWr];exact Below.drewN (Below.drewN ((Below.refl _ _).alloc (Nat.le_refl _) _) _) _
  have HW:=hidden (HG.out.to hbw)
  have HGW:Hid (w.grownBy wr (Value.slice ua hs.length uc).ownBlock):=⟨hbw.os,hbw.tape,hbw.output,hbw.size,fun k hk _=>hbw.block k hk⟩
  have k0:wr.cell? ⟨w.heap.size,0,none⟩=some (.int .i64 b):=by rw [←hWr];exact cell_new rfl
  have k1:wr.cell? ⟨w.heap.size,1,none⟩=some (.int .i64 a):=by rw [←hWr];exact cell_new rfl
  have hkw:w.heap.size<wr.heap.size:=by rw [←hWr];simp
  have hgkb:gb≠w.heap.size:=by omega
  have hkm:w.heap.size≠mb:=by have:=HG.out.lm;omega
  have hko:∀ x,(Value.slice ua hs.length uc).ownBlock=some x→x<w.heap.size:=fun x hx=>(HG.out.ow.lt x hx).2
  have hCw:C≤wr.heap.size:=by have:=HG.out.ge;omega
  clear hWr hbw hlt
  generalize w.heap.size=kb at *
  have KT:Hid (∀ w',wr.grownBy w' (Value.slice ua hs.length uc).ownBlock→w'.cell? ⟨kb,0,none⟩=some (.int .i64 b)∧w'.cell? ⟨kb,1,none⟩=some (.int .i64 a)):=fun w' hg=>⟨(hg.cell_far ⟨kb,0,none⟩ hkw (fun e=>Nat.lt_irrefl _ (hko kb e.symm))).trans k0,(hg.cell_far ⟨kb,1,none⟩ hkw (fun e=>Nat.lt_irrefl _ (hko kb e.symm))).trans k1⟩
  have KP:Hid (∀ w',wr.grownBy w' (Value.slice ua hs.length uc).ownBlock→w'.cell? ⟨gb,1,none⟩=some (.slice ua hs.length uc)∧w'.frozen? ⟨gb,1,none⟩=false):=fun w' hg=>⟨(hg.cell_far ⟨gb,1,none⟩ HW.out.lt (fun e=>HW.out.ng e.symm)).trans HW.out.c1,(hg.frozen_far ⟨gb,1,none⟩ HW.out.lt (fun e=>HW.out.ng e.symm)).trans (HW.out.fr 1)⟩
  have huW:wr.cell? ⟨gb,1,none⟩=some (.slice ua hs.length uc):=HW.out.c1
  have huA:(wr.alloc (.cells #[.int .i64 b,.int .i64 a] 46)).cell? ⟨gb,1,none⟩=some (.slice ua hs.length uc):=(KP.out _ (adH _ _ _)).1
  have hm1:hs.length+1≤maxLen:=by simp only [maxLen];omega
  have hm2:(hs.length+1)*16≤140737488355328:=by omega
  have hm3:C≤((wr.alloc (.cells #[.int .i64 b,.int .i64 a] 46)).drew).heap.size:=by simp;omega
  refine wp_region_noPanic ?_
  refine wp_region_held_drew (S:=(fun w'=>w'.cell? ⟨kb,0,none⟩=some (.int .i64 b)∧w'.cell? ⟨kb,1,none⟩=some (.int .i64 a))) (by kernel_rfl) (by (first | assumption | exact ⟨k0,k1⟩ | exact KT.out _ (adH _ _ _) | exact KT.out _ (drH _ _) | exact KT.out _ (grown_refl _ _) | exact KT.out _ (by assumption) | exact ⟨(World.cell?_setCell_far _ _ _ _ hgkb).trans (KT.out _ HG5).1,(World.cell?_setCell_far _ _ _ _ hgkb).trans (KT.out _ HG5).2⟩)) (fun hHeld=>?_)
  refine tk 0 ?_
  refine tk 1 ?_
  refine tk 2 ?_
  refine tk 3 ?_
  refine tk 5 ?_
  refine wpAnyH_ready (rs:=[4,6]) (by kernel_rfl) (by simp) ?_
  refine AllReadyH.cons (o:=_) rfl (fun K hK=>?_) ?_
  ·(try simp only [gA,gB,gC])
   go_simp
   refine hK.out _ _ (by (first | assumption | exact ⟨k0,k1⟩ | exact KT.out _ (adH _ _ _) | exact KT.out _ (drH _ _) | exact KT.out _ (grown_refl _ _) | exact KT.out _ (by assumption) | exact ⟨(World.cell?_setCell_far _ _ _ _ hgkb).trans (KT.out _ HG5).1,(World.cell?_setCell_far _ _ _ _ hgkb).trans (KT.out _ HG5).2⟩)) (fun hHeld4=>?_)
   clear hK K
   (try simp only [Act.put]);(try simp only [List.setIfInBounds_toArray]);(try simp only [List.set_cons_zero,List.set_cons_succ])
   refine rd 6 fun K hK=>?_
   (try simp only [gA,gB,gC])
   go_simp
   refine hK.out _ _ (by (first | assumption | exact ⟨k0,k1⟩ | exact KT.out _ (adH _ _ _) | exact KT.out _ (drH _ _) | exact KT.out _ (grown_refl _ _) | exact KT.out _ (by assumption) | exact ⟨(World.cell?_setCell_far _ _ _ _ hgkb).trans (KT.out _ HG5).1,(World.cell?_setCell_far _ _ _ _ hgkb).trans (KT.out _ HG5).2⟩)) (fun hHeld6=>?_)
   clear hK K
   (try simp only [Act.put]);(try simp only [List.setIfInBounds_toArray]);(try simp only [List.set_cons_zero,List.set_cons_succ])
   refine rd 7 fun K hK=>?_
   refine step_append_lies _ rfl (.tmp 75) (.tmp 77) 23 rfl C 46 i3 _ 2 16 Try.underlying23 HI2.out HZ2.out HS2.out HBY2.out rfl (by decide) (.slice ua hs.length uc) hs.length _ rfl (HW.out.ow.alloc _).drew ⟨wr.heap.size,0,none⟩ 1 1 [.int .i64 b,.int .i64 a] rfl rfl (World.news_of_block (heap_new _ _)) (by simp [Value.oneCell']) (by decide) hm1 hm2 hm3 _ rfl ?_
   intro g1 cap w5 hown hgrow hat hlt5
   have HG5:=grown_trans (adH _ _ _) hgrow
   have hc5:=(KP.out w5 HG5).1
   have hf5:=(KP.out w5 HG5).2
   refine hK.out _ _ (by (first | assumption | exact ⟨k0,k1⟩ | exact KT.out _ (adH _ _ _) | exact KT.out _ (drH _ _) | exact KT.out _ (grown_refl _ _) | exact KT.out _ (by assumption) | exact ⟨(World.cell?_setCell_far _ _ _ _ hgkb).trans (KT.out _ HG5).1,(World.cell?_setCell_far _ _ _ _ hgkb).trans (KT.out _ HG5).2⟩)) (fun hHeld7=>?_)
   clear hK K
   (try simp only [Act.put]);(try simp only [List.setIfInBounds_toArray]);(try simp only [List.set_cons_zero,List.set_cons_succ])
   refine tk 8 ?_
   refine tk 9 ?_
   refine rd 10 fun K hK=>?_
   (try simp only [gA,gB,gC])
   go_simp
   refine hK.out _ _ (by (first | assumption | exact ⟨k0,k1⟩ | exact KT.out _ (adH _ _ _) | exact KT.out _ (drH _ _) | exact KT.out _ (grown_refl _ _) | exact KT.out _ (by assumption) | exact ⟨(World.cell?_setCell_far _ _ _ _ hgkb).trans (KT.out _ HG5).1,(World.cell?_setCell_far _ _ _ _ hgkb).trans (KT.out _ HG5).2⟩)) (fun hHeld10=>?_)
   clear hK K
   (try simp only [Act.put]);(try simp only [List.setIfInBounds_toArray]);(try simp only [List.set_cons_zero,List.set_cons_succ])
   refine wpAnyH_done (by kernel_rfl) ?_ _
   refine NoPanic.normal ?_
   generalize hW6:World.setCell w5 _ _=w6
   have HU6:w6.cell? ⟨gb,1,none⟩=some (.slice (some ⟨g1,0,none⟩) (hs.length+1) cap):=by rw [←hW6];exact World.cell?_setCell_same (h:=hc5) ..
   have hgs:w5.grownBy w6 (some gb):=by rw [←hW6];exact setH _ _ _ _
   have hot:∀ j,j≠1→w6.cell? ⟨gb,j,none⟩=w5.cell? ⟨gb,j,none⟩:=fun j hj=>by
    rw [←hW6]
    exact World.cell?_setCell_other (h:=fun e=>hj (by cases e;rfl)) ..
   have hfz:∀ j,w6.frozen? ⟨gb,j,none⟩=w5.frozen? ⟨gb,j,none⟩:=fun j=>by rw [←hW6];exact World.frozen?_setCell _ _ _ _
   clear hW6
   have hgw:gb<wr.heap.size:=HW.out.lt
   have hmw:mb<wr.heap.size:=HW.out.lm
   have hgh:g1≠gb∧g1≠mb:=by
    rcases hat with h | h
    ·exact ⟨fun e=>HG.out.ng (by rw [h,e]),fun e=>HG.out.nm (by rw [h,e])⟩
    ·simp at h;omega
   have hs5:=HG5.size
   have hs6:=hgs.size
   have far5:∀ j,w5.cell? ⟨gb,j,none⟩=wr.cell? ⟨gb,j,none⟩:=fun j=>HG5.cell_far ⟨gb,j,none⟩ hgw (fun e=>HG.out.ng e.symm)
   have frz5:∀ j,w5.frozen? ⟨gb,j,none⟩=false:=fun j=>(HG5.frozen_far ⟨gb,j,none⟩ hgw (fun e=>HG.out.ng e.symm)).trans (HW.out.fr j)
   have HO6:w6.ownsRow C 46 2 (.slice (some ⟨g1,0,none⟩) (hs.length+1) cap) (hs++[(⟨b,a⟩:AndD)]).length ((hs++[(⟨b,a⟩:AndD)]).flatMap AndD.cells):=by
    have:=hown.kept hgs (.inr (fun e=>hgh.1 (by cases e;rfl)))
    rw [List.flatMap_append,List.length_append]
    exact this
   have q26:w6.cell? ⟨gb,2,none⟩=some (.map (some mb)):=(hot 2 (by decide)).trans ((far5 2).trans HW.out.c2)
   have q06:w6.cell? ⟨gb,0,none⟩=some (.int .i64 first):=(hot 0 (by decide)).trans ((far5 0).trans HW.out.c0)
   have k06:w6.cell? ⟨kb,0,none⟩=some (.int .i64 b):=(hgs.cell_far ⟨kb,0,none⟩ (by show kb<_;omega) (fun e=>hgkb (by cases e;rfl))).trans (KT.out _ HG5).1
   have k16:w6.cell? ⟨kb,1,none⟩=some (.int .i64 a):=(hgs.cell_far ⟨kb,1,none⟩ (by show kb<_;omega) (fun e=>hgkb (by cases e;rfl))).trans (KT.out _ HG5).2
   have hmap6:w6.heap[mb]?=wr.heap[mb]?:=(hgs.block mb (by omega) (fun e=>HG.out.ne (by cases e;rfl))).trans (HG5.block mb hmw (fun e=>HG.out.nm e.symm))
   have HK6:KnownAt w6.drew mb first hs:=HW.out.kn.to hmap6
   obtain ⟨w7,hput,hkn,es7,cl7,hw7⟩:=known_put HH.out (by omega) HK6 b a (by omega) (by omega) HFN.out
   obtain ⟨es6,cl6,ho6,_⟩:=id HK6
   have hg67:w6.grownBy w7 (some mb):=grown_trans (drH w6 (some mb)) (by rw [hw7];exact putH _ ho6)
   clear hw7 ho6
   have hs7:=hg67.size
   have far7:∀ b j,b<w6.heap.size→b≠mb→w7.cell? ⟨b,j,none⟩=w6.cell? ⟨b,j,none⟩:=fun b j h1 h2=>hg67.cell_far ⟨b,j,none⟩ h1 (fun e=>h2 (by cases e;rfl))
   have hS7:w7.cell? ⟨gb,2,none⟩=some (.map (some mb))∧w7.cell? ⟨kb,0,none⟩=some (.int .i64 b)∧w7.cell? ⟨kb,1,none⟩=some (.int .i64 a):=⟨(far7 gb 2 (by omega) HG.out.ne).trans q26,(far7 kb 0 (by omega) hkm).trans k06,(far7 kb 1 (by omega) hkm).trans k16⟩
   have c07:w7.cell? ⟨gb,0,none⟩=some (.int .i64 first):=(far7 gb 0 (by omega) HG.out.ne).trans q06
   have c17:=(far7 gb 1 (by omega) HG.out.ne).trans HU6
   have c27:=hS7.1
   have ow7:=HO6.kept hg67 (.inr (fun e=>hgh.2 (by cases e;rfl)))
   have fr7:∀ j,w7.frozen? ⟨gb,j,none⟩=false:=fun j=>(hg67.frozen_far ⟨gb,j,none⟩ (by show gb<_;omega) (fun e=>HG.out.ne (by cases e;rfl))).trans ((hfz j).trans (frz5 j))
   have hput2:(Instr.mapUpdate 101 (.map (some mb)) (.agg #[.int .i64 b,.int .i64 a]) (.int .i64 (2*((first:Int)+(hs.length:Int))))).run Try.prog w6.drew = .ok () w7:=hput
   clear hput far7 far5 frz5 hot hfz hc5 hf5
   have HC07:=hidden c07
   have HC17:=hidden c17
   have HOW7:=hidden ow7
   have HFR7:=hidden fr7
   have HKN:=hidden hkn
   clear c07 c17 c27 ow7 fr7 hkn hc0 hc1 hc2 HU6 HO6
   go_wp2
   refine wp_region_noPanic ?_
   refine wp_region_held_drew (S:=(fun w'=>w'.cell? ⟨gb,2,none⟩=some (.map (some mb))∧w'.cell? ⟨kb,0,none⟩=some (.int .i64 b)∧w'.cell? ⟨kb,1,none⟩=some (.int .i64 a))) (by kernel_rfl) (by (first | assumption | exact ⟨q26,k06,k16⟩ | exact hS7)) (fun hHeldM=>?_)
   refine tk 0 ?_
   refine tk 1 ?_
   refine tk 2 ?_
   refine tk 3 ?_
   refine tk 4 ?_
   refine tk 5 ?_
   refine rd 6 fun K hK=>?_
   (try simp only [gA,gB,gC])
   go_simp
   refine hK.out _ _ (by (first | assumption | exact ⟨q26,k06,k16⟩ | exact hS7)) (fun hHeld6=>?_)
   clear hK K
   (try simp only [Act.put]);(try simp only [List.setIfInBounds_toArray]);(try simp only [List.set_cons_zero,List.set_cons_succ])
   refine wpAnyH_done (by kernel_rfl) ?_ _
   refine NoPanic.normal ?_
   go_wp2
   refine bodyPost_ret (v:=.int .i64 (2*((first:Int)+(hs.length:Int)))) (by simp [results,Try.results51,go_sem]) rfl ⟨rfl,⟨_,⟨HC07.out,HC17.out,hS7.1,HOW7.out,HKN.out,HFR7.out,by omega,by omega,by omega,HG.out.ne,fun e=>hgh.1 (by cases e;rfl),fun e=>hgh.2 (by cases e;rfl)⟩⟩,⟨w5,w6,grown_trans HGW.out HG5,hgs,hg67⟩⟩
  refine AllReadyH.cons (o:=_) rfl (fun K hK=>?_) AllReadyH.nil
  (try simp only [gA,gB,gC])
  go_simp
  refine hK.out _ _ (by (first | assumption | exact ⟨k0,k1⟩ | exact KT.out _ (adH _ _ _) | exact KT.out _ (drH _ _) | exact KT.out _ (grown_refl _ _) | exact KT.out _ (by assumption) | exact ⟨(World.cell?_setCell_far _ _ _ _ hgkb).trans (KT.out _ HG5).1,(World.cell?_setCell_far _ _ _ _ hgkb).trans (KT.out _ HG5).2⟩)) (fun hHeld6=>?_)
  clear hK K
  (try simp only [Act.put]);(try simp only [List.setIfInBounds_toArray]);(try simp only [List.set_cons_zero,List.set_cons_succ])
  refine rd 4 fun K hK=>?_
  (try simp only [gA,gB,gC])
  go_simp
  refine hK.out _ _ (by (first | assumption | exact ⟨k0,k1⟩ | exact KT.out _ (adH _ _ _) | exact KT.out _ (drH _ _) | exact KT.out _ (grown_refl _ _) | exact KT.out _ (by assumption) | exact ⟨(World.cell?_setCell_far _ _ _ _ hgkb).trans (KT.out _ HG5).1,(World.cell?_setCell_far _ _ _ _ hgkb).trans (KT.out _ HG5).2⟩)) (fun hHeld4=>?_)
  clear hK K
  (try simp only [Act.put]);(try simp only [List.setIfInBounds_toArray]);(try simp only [List.set_cons_zero,List.set_cons_succ])
  refine rd 7 fun K hK=>?_
  refine step_append_lies _ rfl (.tmp 75) (.tmp 77) 23 rfl C 46 i3 _ 2 16 Try.underlying23 HI2.out HZ2.out HS2.out HBY2.out rfl (by decide) (.slice ua hs.length uc) hs.length _ rfl (HW.out.ow.alloc _).drew ⟨wr.heap.size,0,none⟩ 1 1 [.int .i64 b,.int .i64 a] rfl rfl (World.news_of_block (heap_new _ _)) (by simp [Value.oneCell']) (by decide) hm1 hm2 hm3 _ rfl ?_
  intro g1 cap w5 hown hgrow hat hlt5
  have HG5:=grown_trans (adH _ _ _) hgrow
  have hc5:=(KP.out w5 HG5).1
  have hf5:=(KP.out w5 HG5).2
  refine hK.out _ _ (by (first | assumption | exact ⟨k0,k1⟩ | exact KT.out _ (adH _ _ _) | exact KT.out _ (drH _ _) | exact KT.out _ (grown_refl _ _) | exact KT.out _ (by assumption) | exact ⟨(World.cell?_setCell_far _ _ _ _ hgkb).trans (KT.out _ HG5).1,(World.cell?_setCell_far _ _ _ _ hgkb).trans (KT.out _ HG5).2⟩)) (fun hHeld7=>?_)
  clear hK K
  (try simp only [Act.put]);(try simp only [List.setIfInBounds_toArray]);(try simp only [List.set_cons_zero,List.set_cons_succ])
  refine tk 8 ?_
  refine tk 9 ?_
  refine rd 10 fun K hK=>?_
  (try simp only [gA,gB,gC])
  go_simp
  refine hK.out _ _ (by (first | assumption | exact ⟨k0,k1⟩ | exact KT.out _ (adH _ _ _) | exact KT.out _ (drH _ _) | exact KT.out _ (grown_refl _ _) | exact KT.out _ (by assumption) | exact ⟨(World.cell?_setCell_far _ _ _ _ hgkb).trans (KT.out _ HG5).1,(World.cell?_setCell_far _ _ _ _ hgkb).trans (KT.out _ HG5).2⟩)) (fun hHeld10=>?_)
  clear hK K
  (try simp only [Act.put]);(try simp only [List.setIfInBounds_toArray]);(try simp only [List.set_cons_zero,List.set_cons_succ])
  refine wpAnyH_done (by kernel_rfl) ?_ _
  refine NoPanic.normal ?_
  generalize hW6:World.setCell w5 _ _=w6
  have HU6:w6.cell? ⟨gb,1,none⟩=some (.slice (some ⟨g1,0,none⟩) (hs.length+1) cap):=by rw [←hW6];exact World.cell?_setCell_same (h:=hc5) ..
  have hgs:w5.grownBy w6 (some gb):=by rw [←hW6];exact setH _ _ _ _
  have hot:∀ j,j≠1→w6.cell? ⟨gb,j,none⟩=w5.cell? ⟨gb,j,none⟩:=fun j hj=>by
   rw [←hW6]
   exact World.cell?_setCell_other (h:=fun e=>hj (by cases e;rfl)) ..
  have hfz:∀ j,w6.frozen? ⟨gb,j,none⟩=w5.frozen? ⟨gb,j,none⟩:=fun j=>by rw [←hW6];exact World.frozen?_setCell _ _ _ _
  clear hW6
  have hgw:gb<wr.heap.size:=HW.out.lt
  have hmw:mb<wr.heap.size:=HW.out.lm
  have hgh:g1≠gb∧g1≠mb:=by
   rcases hat with h | h
   ·exact ⟨fun e=>HG.out.ng (by rw [h,e]),fun e=>HG.out.nm (by rw [h,e])⟩
   ·simp at h;omega
  have hs5:=HG5.size
  have hs6:=hgs.size
  have far5:∀ j,w5.cell? ⟨gb,j,none⟩=wr.cell? ⟨gb,j,none⟩:=fun j=>HG5.cell_far ⟨gb,j,none⟩ hgw (fun e=>HG.out.ng e.symm)
  have frz5:∀ j,w5.frozen? ⟨gb,j,none⟩=false:=fun j=>(HG5.frozen_far ⟨gb,j,none⟩ hgw (fun e=>HG.out.ng e.symm)).trans (HW.out.fr j)
  have HO6:w6.ownsRow C 46 2 (.slice (some ⟨g1,0,none⟩) (hs.length+1) cap) (hs++[(⟨b,a⟩:AndD)]).length ((hs++[(⟨b,a⟩:AndD)]).flatMap AndD.cells):=by
   have:=hown.kept hgs (.inr (fun e=>hgh.1 (by cases e;rfl)))
   rw [List.flatMap_append,List.length_append]
   exact this
  have q26:w6.cell? ⟨gb,2,none⟩=some (.map (some mb)):=(hot 2 (by decide)).trans ((far5 2).trans HW.out.c2)
  have q06:w6.cell? ⟨gb,0,none⟩=some (.int .i64 first):=(hot 0 (by decide)).trans ((far5 0).trans HW.out.c0)
  have k06:w6.cell? ⟨kb,0,none⟩=some (.int .i64 b):=(hgs.cell_far ⟨kb,0,none⟩ (by show kb<_;omega) (fun e=>hgkb (by cases e;rfl))).trans (KT.out _ HG5).1
  have k16:w6.cell? ⟨kb,1,none⟩=some (.int .i64 a):=(hgs.cell_far ⟨kb,1,none⟩ (by show kb<_;omega) (fun e=>hgkb (by cases e;rfl))).trans (KT.out _ HG5).2
  have hmap6:w6.heap[mb]?=wr.heap[mb]?:=(hgs.block mb (by omega) (fun e=>HG.out.ne (by cases e;rfl))).trans (HG5.block mb hmw (fun e=>HG.out.nm e.symm))
  have HK6:KnownAt w6.drew mb first hs:=HW.out.kn.to hmap6
  obtain ⟨w7,hput,hkn,es7,cl7,hw7⟩:=known_put HH.out (by omega) HK6 b a (by omega) (by omega) HFN.out
  obtain ⟨es6,cl6,ho6,_⟩:=id HK6
  have hg67:w6.grownBy w7 (some mb):=grown_trans (drH w6 (some mb)) (by rw [hw7];exact putH _ ho6)
  clear hw7 ho6
  have hs7:=hg67.size
  have far7:∀ b j,b<w6.heap.size→b≠mb→w7.cell? ⟨b,j,none⟩=w6.cell? ⟨b,j,none⟩:=fun b j h1 h2=>hg67.cell_far ⟨b,j,none⟩ h1 (fun e=>h2 (by cases e;rfl))
  have hS7:w7.cell? ⟨gb,2,none⟩=some (.map (some mb))∧w7.cell? ⟨kb,0,none⟩=some (.int .i64 b)∧w7.cell? ⟨kb,1,none⟩=some (.int .i64 a):=⟨(far7 gb 2 (by omega) HG.out.ne).trans q26,(far7 kb 0 (by omega) hkm).trans k06,(far7 kb 1 (by omega) hkm).trans k16⟩
  have c07:w7.cell? ⟨gb,0,none⟩=some (.int .i64 first):=(far7 gb 0 (by omega) HG.out.ne).trans q06
  have c17:=(far7 gb 1 (by omega) HG.out.ne).trans HU6
  have c27:=hS7.1
  have ow7:=HO6.kept hg67 (.inr (fun e=>hgh.2 (by cases e;rfl)))
  have fr7:∀ j,w7.frozen? ⟨gb,j,none⟩=false:=fun j=>(hg67.frozen_far ⟨gb,j,none⟩ (by show gb<_;omega) (fun e=>HG.out.ne (by cases e;rfl))).trans ((hfz j).trans (frz5 j))
  have hput2:(Instr.mapUpdate 101 (.map (some mb)) (.agg #[.int .i64 b,.int .i64 a]) (.int .i64 (2*((first:Int)+(hs.length:Int))))).run Try.prog w6.drew = .ok () w7:=hput
  clear hput far7 far5 frz5 hot hfz hc5 hf5
  have HC07:=hidden c07
  have HC17:=hidden c17
  have HOW7:=hidden ow7
  have HFR7:=hidden fr7
  have HKN:=hidden hkn
  clear c07 c17 c27 ow7 fr7 hkn hc0 hc1 hc2 HU6 HO6
  go_wp2
  refine wp_region_noPanic ?_
  refine wp_region_held_drew (S:=(fun w'=>w'.cell? ⟨gb,2,none⟩=some (.map (some mb))∧w'.cell? ⟨kb,0,none⟩=some (.int .i64 b)∧w'.cell? ⟨kb,1,none⟩=some (.int .i64 a))) (by kernel_rfl) (by (first | assumption | exact ⟨q26,k06,k16⟩ | exact hS7)) (fun hHeldM=>?_)
  refine tk 0 ?_
  refine tk 1 ?_
  refine tk 2 ?_
  refine tk 3 ?_
  refine tk 4 ?_
  refine tk 5 ?_
  refine rd 6 fun K hK=>?_
  (try simp only [gA,gB,gC])
  go_simp
  refine hK.out _ _ (by (first | assumption | exact ⟨q26,k06,k16⟩ | exact hS7)) (fun hHeld6=>?_)
  clear hK K
  (try simp only [Act.put]);(try simp only [List.setIfInBounds_toArray]);(try simp only [List.set_cons_zero,List.set_cons_succ])
  refine wpAnyH_done (by kernel_rfl) ?_ _
  refine NoPanic.normal ?_
  go_wp2
  refine bodyPost_ret (v:=.int .i64 (2*((first:Int)+(hs.length:Int)))) (by simp [results,Try.results51,go_sem]) rfl ⟨rfl,⟨_,⟨HC07.out,HC17.out,hS7.1,HOW7.out,HKN.out,HFR7.out,by omega,by omega,by omega,HG.out.ne,fun e=>hgh.1 (by cases e;rfl),fun e=>hgh.2 (by cases e;rfl)⟩⟩,⟨w5,w6,grown_trans HGW.out HG5,hgs,hg67⟩⟩
set_option maxRecDepth 100000 in
set_option maxHeartbeats 8000000 in
theorem and_eq (C:Nat) (w:World) (gb mb first:Nat) (hs:List AndD) (u:Value) (h:GtAt C w gb mb first hs u) (hlen:first+hs.length≤1000000) (a:Int) (ha:0≤a∧a<2*((first:Int)+(hs.length:Int))) :
  Calls Try.prog 51 #[.pointer (some ⟨gb,0,none⟩),.int .i64 a,.int .i64 a] w fun e w'=>e = .returned (.int .i64 (andH first hs a a).2)∧(∃ u',GtAt C w' gb mb first (andH first hs a a).1 u')∧Grew w w' gb mb u.ownBlock:=by
 have HG:=hidden h
 have OP:Hid (∀ w,Calls Try.prog 65 #[.int .i64 a] w fun e w'=>e = .returned (.int .i64 (flipI a))∧w'=w):=fun w=>opposite_any a (by omega) (by omega) w
 have emx:Hid (max a a=a):=by show _=_;omega
 have emn:Hid (min a a=a):=by show _=_;omega
 by_cases h0:a=0
 ·rw [andH_no emx.out emn.out (.inl h0)]
  subst h0
  go_enter Try.func51,Try.ntmps51
  go_wp2
  go_quiet (fail)
  go_wp2
  refine bodyPost_ret (v:=.int .i64 0) (by simp [results,Try.results51,go_sem]) rfl ⟨rfl,HG.out.same ?_⟩
  exact Below.drewN ((Below.refl _ _).alloc (Nat.le_refl _) _) _
 have h1:¬ a=flipI a:=by unfold flipI;split <;> omega
 have h1b:(a == flipI a)=false:=by simpa using h1
 have hno:¬ (a=0∨a=flipI a):=fun e=>e.elim h0 h1
 rw [andH_top emx.out emn.out hno (.inr rfl)]
 clear emx emn hno
 have h3b:(a == a)=true:=by simp
 by_cases h2:a=1
 ·subst h2
  go_enter Try.func51,Try.ntmps51
  go_wp2
  go_quiet ((go_at_call 65;exact Calls.quiet_of_same (OP.out _)))
  go_wp2
  refine bodyPost_ret (v:=.int .i64 1) (by simp [results,Try.results51,go_sem]) rfl ⟨rfl,HG.out.same ?_⟩
  exact Below.drewN ((Below.refl _ _).alloc (Nat.le_refl _) _) _
 ·have h2b:(a == 1)=false:=by simpa using h2
  go_enter Try.func51,Try.ntmps51
  go_wp2
  go_quiet ((go_at_call 65;exact Calls.quiet_of_same (OP.out _)))
  go_wp2
  refine bodyPost_ret (v:=.int .i64 a) (by simp [results,Try.results51,go_sem]) rfl ⟨rfl,HG.out.same ?_⟩
  exact Below.drewN ((Below.refl _ _).alloc (Nat.le_refl _) _) _
theorem and_any (C:Nat) (w:World) (gb mb first:Nat) (hs:List AndD) (u:Value) (h:GtAt C w gb mb first hs u) (H:HsOk first hs) (hlen:first+hs.length≤1000000) (a b:Int) (ha:0≤a∧a<2*((first:Int)+(hs.length:Int))) (hb:0≤b∧b<2*((first:Int)+(hs.length:Int))) :
  Calls Try.prog 51 #[.pointer (some ⟨gb,0,none⟩),.int .i64 a,.int .i64 b] w fun e w'=>e = .returned (.int .i64 (andH first hs a b).2)∧(∃ u',GtAt C w' gb mb first (andH first hs a b).1 u')∧Grew w w' gb mb u.ownBlock:=by
 by_cases h1:b<a
 ·exact and_gt C w gb mb first hs u h H hlen a b ha hb h1
 by_cases h2:a<b
 ·exact and_lt C w gb mb first hs u h H hlen a b ha hb h2
 ·obtain rfl:a=b:=by omega
  exact and_eq C w gb mb first hs u h hlen a ha
end Go.Proofs.Ytlaljeobdddegaa
