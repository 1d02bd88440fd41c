import Derived.Test.YtlaljeobdddegaaJ35
namespace Go.Proofs.Ytlaljeobdddegaa
open Go.RowKit Mp
theorem own_ne {w:World} {b1 b2 s1 s2 n1 n2:Nat} {e1 e2:TypeId} {v1 v2:Value} {x1 x2:List Value} (h1:w.ownsRow b1 e1 s1 v1 n1 x1) (h2:w.ownsRow b2 e2 s2 v2 n2 x2) (he:e1≠e2):v2.ownBlock=none∨v2.ownBlock≠v1.ownBlock:=by
 rcases h2.2 with ⟨rfl,_⟩ | ⟨g,cap,cur,rfl,_,hg,_⟩
 ·exact .inl rfl
 ·refine .inr (fun e=>?_)
  rcases h1.2 with ⟨rfl,_⟩ | ⟨g',cap',cur',rfl,_,hg',_⟩
  ·simp [Value.ownBlock] at e
  ·simp [Value.ownBlock] at e
   subst e
   rw [hg'] at hg
   simp at hg
   exact he hg.2
theorem own_kept {w w':World} {C e sz n:Nat} {v:Value} {xs:List Value} {row:Option Nat} (h:w.ownsRow C e sz v n xs) (hg:w.grownBy w' row) (hr:v.ownBlock=none∨v.ownBlock≠row):w'.ownsRow C e sz v n xs:=by
 refine ⟨h.1,?_⟩
 rcases h.2 with ⟨rfl,hn⟩ | ⟨g,cap,cur,rfl,h1,h2,h3⟩
 ·exact Or.inl ⟨rfl,hn⟩
 ·refine Or.inr ⟨g,cap,cur,rfl,h1,(hg.block g (Array.getElem?_eq_some_iff.1 h2).1 (fun e=>?_)).trans h2,h3⟩
  rcases hr with hr | hr
  ·cases hr
  ·exact hr e
theorem own_lt {w:World} {C e sz n:Nat} {v:Value} {xs:List Value} (h:w.ownsRow C e sz v n xs):∀ k,v.ownBlock=some k→k<w.heap.size:=fun k hk=>by
 rcases h.2 with ⟨rfl,_⟩ | ⟨g,cap,cur,rfl,_,h2,_⟩
 ·cases hk
 ·have:g=k:=by simpa [Value.ownBlock] using hk
  rw [←this];exact (Array.getElem?_eq_some_iff.1 h2).1
theorem blk_kept {w w':World} {b:Nat} {t:TypeId} {arr:Array Value} {row:Option Nat} (h:Blk w b t arr) (hg:w.grownBy w' row) (hr:some b≠row):Blk w' b t arr:=(hg.block b h.lt hr).trans h
theorem flC_split {cs:List Ct} {j:Nat} {u:Value} (h:(flC cs)[j]?=some u):∃ c,cs[j / 8]?=some c∧(ctC c)[j % 8]?=some u:=by
 have hj:=(List.getElem?_eq_some_iff.1 h).1
 rw [flC_len] at hj
 obtain ⟨c,hc⟩:=getElem_lt (l:=cs) (k:=j / 8) (by omega)
 have hl:j % 8<(ctC c).length:=by rw [ctC_len];omega
 have h2:=flC_at hc (List.getElem?_eq_getElem hl)
 have e:j / 8*8+j % 8=j:=by omega
 rw [e,h] at h2
 exact ⟨c,hc,by rw [List.getElem?_eq_getElem hl,Option.some.inj h2]⟩
theorem CtAt.cell {w:World} {b o:Nat} {c:Ct} (h:CtAt w b o c) {j:Nat} {u:Value} (hu:(ctC c)[j]?=some u):w.cell? ⟨b,o+j,none⟩=some u:=by
 have hj:j<8:=(List.getElem?_eq_some_iff.1 hu).1
 have:j=0∨j=1∨j=2∨j=3∨j=4∨j=5∨j=6∨j=7:=by omega
 rcases this with rfl | rfl | rfl | rfl | rfl | rfl | rfl | rfl
 ·rw [←hu];exact h.c0
 ·rw [←hu];exact h.c1
 ·rw [←hu];exact h.c2
 ·rw [←hu];exact h.c3
 ·rw [←hu];exact h.c4
 ·rw [←hu];exact h.c5
 ·rw [←hu];exact h.c6
 ·rw [←hu];exact h.c7
theorem app_cuts (w:World) {ops:Array Oper} {rest:List Oper} {o:Oper} {a:Act} {Q:Exit→Act→World→Prop} (hgd:o.guard=none) (s x:Operand)
  (ho:o.op = .call { callee:=.builtin .append,args:=#[s,x],argTypes:=#[83,83] })
  (base:Nat) (v:Value) (n:Nat) (xs:List Value) (hs:a.eval s=v) (hown:w.ownsRow base 114 8 v n xs) (la:Option Addr) (c:Nat) (cs:List Ct) (hx:a.eval x = .slice la cs.length c) (hr:CtsR w la cs) (hne:cs≠[]) (hn:n+cs.length≤1000000000000) (hbase:base≤w.heap.size)
  (h:∀ g cap w',w'.ownsRow base 114 8 (.slice (some ⟨g,0,none⟩) (n+cs.length) cap) (n+cs.length) (xs++flC cs)→w.grownBy w' v.ownBlock→(v.ownBlock=some g∨g=w.heap.size)→wpList Try.prog ops Q rest (a.put o.dst (.slice (some ⟨g,0,none⟩) (n+cs.length) cap)) w'):wpList Try.prog ops Q (o :: rest) a w:=by
 obtain ⟨i,hi,hz,hsz,hby⟩:=info_cut
 have hp:=List.length_pos_iff.2 hne
 obtain ⟨c0,hc0⟩:=getElem_lt hp
 obtain ⟨b,off,rfl,_⟩:=hr 0 c0 hc0
 refine wpList_append_lies w hgd s x 83 ho base 114 i _ 8 64 cutsU hi hz hsz hby rfl (by decide) v n xs hs hown ⟨b,off,none⟩ cs.length c (flC cs) hx (flC_len cs) (fun j u hu=>?_) (fun u hu=>?_) hp (by simp only [maxLen];omega) (by omega) hbase _ rfl ?_
 ·obtain ⟨c1,h1,h2⟩:=flC_split hu
  obtain ⟨b',o',he,hat⟩:=hr _ _ h1
  simp only [Option.some.injEq,Addr.mk.injEq,and_true] at he
  obtain ⟨rfl,rfl⟩:=he
  rw [addL,show off+j=off+j / 8*8+j % 8 by omega]
  exact hat.cell h2
 ·unfold flC at hu
  obtain ⟨c1,_,h2⟩:=List.mem_flatMap.1 hu
  exact one_ctC c1 u h2
 ·intro g cap w' h1 h2 h3 _
  exact h g cap w' h1 h2 h3
theorem step_int (w:World) {ops:Array Oper} {o:Oper} {a:Act} {K:Act→World→Prop} {Q:Exit→Act→World→Prop} {E:Prop} (hgd:o.guard=none) (s x:Operand)
  (ho:o.op = .call { callee:=.builtin .append,args:=#[s,x],argTypes:=#[24,24] })
  (base:Nat) (v:Value) (n:Nat) (xs:List Value) (hs:a.eval s=v) (hown:w.ownsRow base 3 1 v n xs) (ad:Addr) (y:Int) (hx:a.eval x = .slice (some ad) 1 1) (hy:w.cell? ad=some (.int .i64 y)) (hn:n≤1000000000000) (hbase:base≤w.heap.size)
  (h:∀ g cap w',w'.ownsRow base 3 1 (.slice (some ⟨g,0,none⟩) (n+1) cap) (n+1) (xs++[.int .i64 y])→w.grownBy w' v.ownBlock→(v.ownBlock=some g∨g=w.heap.size)→K (a.put o.dst (.slice (some ⟨g,0,none⟩) (n+1) cap)) w'):if Region.wanted o (yielded ops a.tmps)=true then Oper.wp Try.prog o a w K Q else E:=by
 obtain ⟨i,hi,hz,hsz,hby⟩:=info_n
 refine step_append_lies w hgd s x 24 ho base 3 i _ 1 8 ints_u hi hz hsz hby rfl (by decide) v n xs hs hown ad 1 1 [.int .i64 y] hx rfl (fun j u hu=>?_) (by simp [Value.oneCell']) (by decide) (by simp only [maxLen];omega) (by omega) hbase _ rfl ?_
 ·cases j with
  | zero =>
   obtain rfl:=Option.some.inj hu
   have:ad.add 0=ad:=by
    unfold Addr.add
    split <;> simp_all
   rw [this];exact hy
  | succ j=>simp at hu
 ·intro g cap w' h1 h2 h3 _
  exact h g cap w' h1 h2 h3
def endsL {α:Type} (Cs:List (List α)):List Nat:=(List.range Cs.length).map fun v=>stO Cs (v+1)
theorem stO_app {α:Type} (Cs:List (List α)) (cs:List α) {v:Nat} (h:v≤Cs.length):stO (Cs++[cs]) v=stO Cs v:=by
 unfold stO;rw [List.take_append_of_le_length h]
theorem endsL_snoc {α:Type} (Cs:List (List α)) (cs:List α):endsL (Cs++[cs])=endsL Cs++[Cs.flatten.length+cs.length]:=by
 unfold endsL
 rw [List.length_append,List.length_singleton,List.range_succ,List.map_append]
 congr 1
 ·refine List.map_congr_left (fun v hv=>?_)
  rw [stO_app _ _ (by have:=List.mem_range.1 hv;omega)]
 ·have:=stO_all (Cs++[cs])
  rw [List.length_append,List.length_singleton,List.flatten_append,List.length_append] at this
  simp only [List.map_cons,List.map_nil]
  rw [this]
  simp
structure LsC (C:Nat) (w:World) (av ev:Value) (Cs:List (List Ct)):Prop where
 oa:w.ownsRow C 114 8 av Cs.flatten.length (flC Cs.flatten)
 oe:w.ownsRow C 3 1 ev Cs.length ((endsL Cs).map nV)
 num:Cs.length≤1000000
 few:Cs.flatten.length≤900000000000
theorem flC_app (a b:List Ct):flC (a++b)=flC a++flC b:=by unfold flC;rw [List.flatMap_append]
set_option maxRecDepth 100000 in
set_option maxHeartbeats 8000000 in
theorem addC_any (C:Nat) (w:World) (fb:Nat) (dv av ev:Value) (Cs:List (List Ct)) (t:TypeId) (hbk:Blk w fb t #[av,ev,dv]) (hfC:fb<C) (hC:C≤w.heap.size) (h:LsC C w av ev Cs) (la:Option Addr) (c:Nat) (cs:List Ct) (hcs:CtsR w la cs) (hne:cs≠[]) (hn1:Cs.length+1≤1000000) (hn2:Cs.flatten.length+cs.length≤900000000000) :
  Calls Try.prog 68 #[.pointer (some ⟨fb,0,none⟩),.slice la cs.length c] w fun e w'=>∃ av' ev',(∃ v,e = .returned v)∧Hid (Blk w' fb t #[av',ev',dv])∧Hid (LsC C w' av' ev' (Cs++[cs]))∧Hid (Below fb w w')∧Hid (∀ x:Nat,x<w.heap.size→x≠fb→some x≠av.ownBlock→some x≠ev.ownBlock→w'.heap[x]?=w.heap[x]?)∧Hid (∀ k,ev'.ownBlock=some k→ev.ownBlock=some k∨w.heap.size≤k):=by
 have c0:=hbk.cell (i:=0) rfl
 have z0:w.cell? ⟨fb,0,none⟩=some av:=c0
 have HBK:=hidden hbk
 have HL:=hidden h
 have HCR:=hidden hcs
 have HNE:=hidden hne
 have HF:Hid (∀ (v:World) (t':Value),w.grownBy v av.ownBlock→Blk v fb t #[av,ev,dv]):=fun v _ hv=>blk_kept HBK.out hv (fun e=>by have:=own_newB HL.out.oa fb e.symm;omega)
 obtain ⟨n,En⟩:=exh cs.length
 obtain ⟨N,EN⟩:=exh Cs.flatten.length
 rw [←En.out]
 clear h hcs hne c0 hbk
 go_enter Try.func68,Try.ntmps68
 have tok:True:=trivial
 go_upto_region 1 with (have _t:=tok;at_builtin;(refine app_cuts _ rfl (.tmp 8) (.tmp 9) rfl C av N _ rfl (by rw [EN.out];exact HL.out.oa) la c cs (by rw [←En.out];rfl) HCR.out HNE.out (by rw [EN.out];omega) hC ?_;intro g2 c2 w2 hown hgrow hplace;have HO2:=hidden hown;have HG2:=hidden hgrow;have HB2:=hidden (HF.out w2 av hgrow);have y0:w2.cell? ⟨fb,0,none⟩=some av:=HB2.out.cell (i:=0) rfl;have f0:=HB2.out.frozen 0;clear tok hown hgrow))
 obtain ⟨w3,Ew3⟩:=exh (w2.setCell ⟨fb,0,none⟩ (.slice (some ⟨g2,0,none⟩) (N+cs.length) c2))
 have HB3:Hid (Blk w3 fb t #[.slice (some ⟨g2,0,none⟩) (N+cs.length) c2,ev,dv]):=by rw [Ew3.out];exact HB2.out.set 0 _
 rw [←Ew3.out]
 obtain ⟨N2,EN2⟩:=exh (N+cs.length)
 rw [←EN2.out] at HB3 HO2
 rw [←EN2.out]
 have x0:w3.cell? ⟨fb,0,none⟩=some (.slice (some ⟨g2,0,none⟩) N2 c2):=HB3.out.cell (i:=0) rfl
 have x1:w3.cell? ⟨fb,1,none⟩=some ev:=HB3.out.cell (i:=1) rfl
 have x1d:w3.drew.cell? ⟨fb,1,none⟩=some ev:=x1
 have hfl:=HB3.out.lt
 have HG3:Hid (w2.grownBy w3 (some fb)):=by rw [Ew3.out];exact (But.set fb 0 w2 _).grown
 obtain ⟨w4,Ew4⟩:=exh (w3.alloc (.cells #[.int .i64 (N2:Int)] 3)).drew
 have HG4:Hid (Bl w3 w4):=by rw [Ew4.out];exact Below.drew ((Below.refl _ _).alloc (Nat.le_refl _) _)
 have HB4:=hidden (HB3.out.below HG4.out)
 have HNE2:Hid (some fb≠av.ownBlock∧some fb≠ev.ownBlock):=⟨fun e=>by have:=own_newB HL.out.oa fb e.symm;omega,fun e=>by have:=own_newB HL.out.oe fb e.symm;omega⟩
 have HOE:Hid (w4.ownsRow C 3 1 ev Cs.length ((endsL Cs).map nV)):=by
  have h1:=own_kept HL.out.oe HG2.out (own_ne HL.out.oa HL.out.oe (by decide))
  have h2:=own_kept h1 HG3.out (by
   cases e:ev.ownBlock with
   | none=>exact Or.inl rfl
   | some k=>exact Or.inr (fun h=>HNE2.out.2 (by rw [e];exact h.symm)))
  exact own_below h2 HG4.out
 have HOA:Hid (w4.ownsRow C 114 8 (.slice (some ⟨g2,0,none⟩) N2 c2) N2 (flC Cs.flatten++flC cs)):=by
  have h2:=own_kept HO2.out HG3.out (Or.inr (fun h=>by
   have:=own_newB HO2.out g2 rfl
   have e:g2=fb:=by simpa [Value.ownBlock] using h
   omega))
  exact own_below h2 HG4.out
 have HCL:Hid (w4.cell? ⟨w3.heap.size,0,none⟩=some (.int .i64 (N2:Int))):=by
  show _=_
  rw [Ew4.out]
  show (w3.alloc (.cells #[.int .i64 (N2:Int)] 3)).cell? _=_
  rw [cell_new rfl];rfl
 have HSZ:Hid (w.heap.size≤w4.heap.size):=Nat.le_trans HG2.out.size (Nat.le_trans HG3.out.size HG4.out.size)
 have xa0:w4.cell? ⟨fb,0,none⟩=some (.slice (some ⟨g2,0,none⟩) N2 c2):=HB4.out.cell (i:=0) rfl
 have xa1:w4.cell? ⟨fb,1,none⟩=some ev:=HB4.out.cell (i:=1) rfl
 have HR5:Hid (∀ g5 c5 w5,w5.ownsRow C 3 1 (.slice (some ⟨g5,0,none⟩) (Cs.length+1) c5) (Cs.length+1) ((endsL Cs).map nV++[.int .i64 (N2:Int)])→w4.grownBy w5 ev.ownBlock→(ev.ownBlock=some g5∨g5=w4.heap.size)→(Blk w5 fb t #[.slice (some ⟨g2,0,none⟩) N2 c2,ev,dv])∧(∃ av' ev',(∃ v,Ending.returned (.tuple #[]) = .returned v)∧Hid (Blk (w5.setCell ⟨fb,1,none⟩ (.slice (some ⟨g5,0,none⟩) (Cs.length+1) c5)) fb t #[av',ev',dv])∧Hid (LsC C (w5.setCell ⟨fb,1,none⟩ (.slice (some ⟨g5,0,none⟩) (Cs.length+1) c5)) av' ev' (Cs++[cs]))∧Hid (Below fb w (w5.setCell ⟨fb,1,none⟩ (.slice (some ⟨g5,0,none⟩) (Cs.length+1) c5)))∧Hid (∀ x:Nat,x<w.heap.size→x≠fb→some x≠av.ownBlock→some x≠ev.ownBlock→(w5.setCell ⟨fb,1,none⟩ (.slice (some ⟨g5,0,none⟩) (Cs.length+1) c5)).heap[x]?=w.heap[x]?)∧Hid (∀ k,ev'.ownBlock=some k→ev.ownBlock=some k∨w.heap.size≤k))):=by
  intro g5 c5 w5 hown hgrow hplace
  have hb5:=blk_kept HB4.out hgrow HNE2.out.2
  have hg6:=(But.set fb 1 w5 (.slice (some ⟨g5,0,none⟩) (Cs.length+1) c5)).grown
  have hlen:(Cs++[cs]).flatten.length=N2:=by rw [List.flatten_append,List.length_append,EN2.out,EN.out];simp
  refine ⟨hb5,.slice (some ⟨g2,0,none⟩) N2 c2,.slice (some ⟨g5,0,none⟩) (Cs.length+1) c5,⟨_,rfl⟩,hb5.set 1 _,⟨?_,?_,by rw [List.length_append];exact hn1,by rw [hlen,EN2.out,EN.out];exact hn2⟩,?_,?_,?_⟩
  ·rw [hlen,List.flatten_append,flC_app]
   have h1:=own_kept HOA.out hgrow (own_ne HOE.out HOA.out (by decide))
   have h2:=own_kept h1 hg6 (Or.inr (fun h=>by
    have:=own_newB HOA.out g2 rfl
    have e:g2=fb:=by simpa [Value.ownBlock] using h
    omega))
   simpa using h2
  ·rw [endsL_snoc,List.map_append,List.length_append,←EN.out]
   have h2:=own_kept hown hg6 (Or.inr (fun h=>by
    have:=own_newB hown g5 rfl
    have e:g5=fb:=by simpa [Value.ownBlock] using h
    omega))
   rw [EN2.out] at h2
   exact h2
  ·have b1:Below fb w w2:=grow_low HG2.out (by omega) (fun k e=>by have:=own_newB HL.out.oa k e;omega)
   have b2:Below fb w2 w3:=grow_low HG3.out (by have:=HG2.out.size;omega) (fun k e=>by injection e with e;omega)
   have b4:Below fb w4 w5:=grow_low hgrow (by have:=HSZ.out;omega) (fun k e=>by have:=own_newB HL.out.oe k e;omega)
   have b6:=(But.set fb 1 w5 (.slice (some ⟨g5,0,none⟩) (Cs.length+1) c5)).below (Nat.le_refl _) (Nat.le_of_lt hb5.lt)
   exact b1.trans (b2.trans ((HG4.out.mono (Nat.le_of_lt hfl)).trans (b4.trans b6)))
  ·intro x hx h1 h2 h3
   have s2:=HG2.out.size
   have s3:=HG3.out.size
   have s4:=HG4.out.size
   have s5:=hgrow.size
   rw [hg6.block x (by omega) (fun e=>h1 (by injection e)),hgrow.block x (by omega) h3,HG4.out.block x (by omega),HG3.out.block x (by omega) (fun e=>h1 (by injection e)),HG2.out.block x hx h2]
  ·intro k hk
   have e:g5=k:=by simpa [Value.ownBlock] using hk
   rcases hplace with h | h
   ·exact Or.inl (by rw [h,e])
   ·exact Or.inr (by have:=HSZ.out;omega)
 clear HB2 HO2 HG2 HF HL HBK
 refine wp_region_noPanic ?_
 refine wp_region_held_drew (S:=fun wz=>wz.cell? ⟨fb,0,none⟩=some (.slice (some ⟨g2,0,none⟩) N2 c2)) (by kernel_rfl) (by exact x0) (fun hHeld=>?_)
 refine tk 0 ?_
 refine tk 1 ?_
 refine tk 2 ?_
 refine tk 3 ?_
 refine tk 5 ?_
 refine tk 6 ?_
 refine tk 7 ?_
 refine tk 8 ?_
 refine tk 9 ?_
 refine wpAnyH_ready (rs:=[4,10]) (by kernel_rfl) (by simp) ?_
 refine AllReadyH.cons (o:=_) rfl (fun K hK=>?_) (AllReadyH.cons (o:=_) rfl (fun K hK=>?_) AllReadyH.nil)
 ·(try simp only [gA,gB,gC]);go_simp
  refine wo hK hHeld fun hHeld2=>?_
  clear hK K
  refine rd 10 fun K hK=>?_
  (try simp only [gA,gB,gC]);go_simp
  rw [←Ew4.out]
  refine wo hK xa0 fun hHeld3=>?_
  clear hK K
  refine rd 11 fun K hK=>?_
  refine step_int _ rfl (.tmp 17) (.tmp 23) rfl C ev Cs.length _ rfl HOE.out ⟨w3.heap.size,0,none⟩ (N2:Int) rfl HCL.out (by omega) (Nat.le_trans hC HSZ.out) ?_
  intro g5 c5 w5 hown hgrow hplace
  obtain ⟨hb5,hfin⟩:=HR5.out g5 c5 w5 hown hgrow hplace
  have HFI:=hidden hfin
  have y0:w5.cell? ⟨fb,0,none⟩=some (.slice (some ⟨g2,0,none⟩) N2 c2):=hb5.cell (i:=0) rfl
  have y1:w5.cell? ⟨fb,1,none⟩=some ev:=hb5.cell (i:=1) rfl
  have f1:=hb5.frozen 1
  clear hown hgrow hplace hb5 hfin HR5
  refine wo hK y0 fun hHeld4=>?_
  clear hK K
  refine tk 12 ?_
  refine tk 13 ?_
  refine rd 14 fun K hK=>?_
  (try simp only [gA,gB,gC]);go_simp
  refine wo hK (by rw [World.cell?_setCell_other _ _ _ _ (by simp)];exact y0) fun hHeld5=>?_
  clear hK K
  refine wpAnyH_done (by kernel_rfl) ?_ _
  refine NoPanic.normal ?_
  go_wp2_with fail
  go_end0
  exact HFI.out
 ·(try simp only [gA,gB,gC]);go_simp
  rw [←Ew4.out]
  refine wo hK xa0 fun hHeld2=>?_
  clear hK K
  refine rd 4 fun K hK=>?_
  (try simp only [gA,gB,gC]);go_simp
  refine wo hK xa0 fun hHeld3=>?_
  clear hK K
  refine rd 11 fun K hK=>?_
  refine step_int _ rfl (.tmp 17) (.tmp 23) rfl C ev Cs.length _ rfl HOE.out ⟨w3.heap.size,0,none⟩ (N2:Int) rfl HCL.out (by omega) (Nat.le_trans hC HSZ.out) ?_
  intro g5 c5 w5 hown hgrow hplace
  obtain ⟨hb5,hfin⟩:=HR5.out g5 c5 w5 hown hgrow hplace
  have HFI:=hidden hfin
  have y0:w5.cell? ⟨fb,0,none⟩=some (.slice (some ⟨g2,0,none⟩) N2 c2):=hb5.cell (i:=0) rfl
  have y1:w5.cell? ⟨fb,1,none⟩=some ev:=hb5.cell (i:=1) rfl
  have f1:=hb5.frozen 1
  clear hown hgrow hplace hb5 hfin HR5
  refine wo hK y0 fun hHeld4=>?_
  clear hK K
  refine tk 12 ?_
  refine tk 13 ?_
  refine rd 14 fun K hK=>?_
  (try simp only [gA,gB,gC]);go_simp
  refine wo hK (by rw [World.cell?_setCell_other _ _ _ _ (by simp)];exact y0) fun hHeld5=>?_
  clear hK K
  refine wpAnyH_done (by kernel_rfl) ?_ _
  refine NoPanic.normal ?_
  go_wp2_with fail
  go_end0
  exact HFI.out
end Go.Proofs.Ytlaljeobdddegaa

namespace Go.Proofs.Ytlaljeobdddegaa
open Go.RowKit Mp
structure FnB (w:World) (fb:Nat) (Cs:List (List Ct)) (ds:List Nat):Prop where
 ex:∃ av ev dv,Blk w fb 87 #[av,ev,dv]∧LsC (fb+1) w av ev Cs∧w.ownsRow (fb+1) 3 1 dv ds.length (ds.map nV)∧(dv.ownBlock=none∨dv.ownBlock≠ev.ownBlock)
 num:ds.length≤1000000
theorem LsC.kept {C:Nat} {w w':World} {av ev:Value} {Cs:List (List Ct)} {row:Option Nat} (h:LsC C w av ev Cs) (hg:w.grownBy w' row) (h1:av.ownBlock=none∨av.ownBlock≠row) (h2:ev.ownBlock=none∨ev.ownBlock≠row):LsC C w' av ev Cs:=⟨own_kept h.oa hg h1,own_kept h.oe hg h2,h.num,h.few⟩
theorem LsC.to {C:Nat} {w w':World} {av ev:Value} {Cs:List (List Ct)} (h:LsC C w av ev Cs) (hb:Bl w w'):LsC C w' av ev Cs:=⟨own_below h.oa hb,own_below h.oe hb,h.num,h.few⟩
theorem FnB.to {w w':World} {fb:Nat} {Cs:List (List Ct)} {ds:List Nat} (h:FnB w fb Cs ds) (hb:Bl w w'):FnB w' fb Cs ds:=by
 obtain ⟨av,ev,dv,h1,h2,h3,h4⟩:=h.ex
 exact ⟨⟨av,ev,dv,h1.below hb,h2.to hb,own_below h3 hb,h4⟩,h.num⟩
theorem new_ne {C fb:Nat} {v:Value} (h:NewB C v) (hf:fb<C):v.ownBlock=none∨v.ownBlock≠some fb:=by
 cases e:v.ownBlock with
 | none=>exact Or.inl rfl
 | some k=>exact Or.inr (fun h'=>by injection h' with h';have:=h k e;omega)
def FnBelow (w:World) (fb T:Nat):Prop:=∀ av ev dv,Blk w fb 87 #[av,ev,dv]→(∀ k,av.ownBlock=some k→k<T)∧(∀ k,ev.ownBlock=some k→k<T)∧(∀ k,dv.ownBlock=some k→k<T)
set_option maxRecDepth 100000 in
set_option maxHeartbeats 8000000 in
theorem note_any (w:World) (fb:Nat) (Cs:List (List Ct)) (ds:List Nat) (h:FnB w fb Cs ds) (hlen:Cs.length=ds.length) (d:Nat) (la:Option Addr) (c:Nat) (cs:List Ct) (hcs:CtsR w la cs) (hne:cs≠[]) (T:Nat) (hT:FnBelow w fb T) (hTl:∀ b o,la=some ⟨b,o,none⟩→T≤b∧b≠fb) (hn1:Cs.length+1≤1000000) (hn2:Cs.flatten.length+cs.length≤900000000000) :
  Calls Try.prog 55 #[.pointer (some ⟨fb,0,none⟩),.int .i64 (d:Nat),.slice la cs.length c] w fun e w'=>(∃ v,e = .returned v)∧Hid (FnB w' fb (Cs++[cs]) (ds++[d]))∧Hid (Below fb w w'):=by
 obtain ⟨av,ev,dv,hbk,hls,hod,hsep⟩:=h.ex
 obtain ⟨t1,t2,t3⟩:=hT av ev dv hbk
 have hfl:=hbk.lt
 have z2:w.cell? ⟨fb,2,none⟩=some dv:=hbk.cell (i:=2) rfl
 have HBK:=hidden hbk
 have HLS:=hidden hls
 have HOD:=hidden hod
 have HW1:Hid (w.heap.size=w.heap.size):=rfl
 obtain ⟨w1,Ew1⟩:=exh (w.alloc (.cells #[.int .i64 (d:Int)] 3))
 have HG1:Hid (Bl w w1):=by rw [Ew1.out];exact (Below.refl _ _).alloc (Nat.le_refl _) _
 have HCL:Hid (w1.cell? ⟨w.heap.size,0,none⟩=some (.int .i64 (d:Int))):=by
  show _=_
  rw [Ew1.out,cell_new rfl];rfl
 have HFD:Hid (some fb≠dv.ownBlock):=fun e=>by have:=own_newB HOD.out fb e.symm;omega
 have HNX:Hid (∀ g2 c2 w2,w2.ownsRow (fb+1) 3 1 (.slice (some ⟨g2,0,none⟩) (ds.length+1) c2) (ds.length+1) (ds.map nV++[.int .i64 (d:Int)])→w1.grownBy w2 dv.ownBlock→(dv.ownBlock=some g2∨g2=w1.heap.size)→Blk w2 fb 87 #[av,ev,dv]∧Calls Try.prog 68 #[.pointer (some ⟨fb,0,none⟩),.slice la cs.length c] (w2.setCell ⟨fb,2,none⟩ (.slice (some ⟨g2,0,none⟩) (ds.length+1) c2)) fun e w'=>(∃ v,e = .returned v)∧Hid (FnB w' fb (Cs++[cs]) (ds++[d]))∧Hid (Below fb w w')):=by
  intro g2 c2 w2 hown hgrow hplace
  have hb2:=blk_kept (HBK.out.below HG1.out) hgrow HFD.out
  have hg3:=(But.set fb 2 w2 (.slice (some ⟨g2,0,none⟩) (ds.length+1) c2)).grown
  have hl2:=(HLS.out.to HG1.out).kept hgrow (own_ne HOD.out HLS.out.oa (by decide)) (by
   rcases hsep with h | h
   ·rw [h]
    cases e:ev.ownBlock with
    | none=>exact Or.inl rfl
    | some k=>exact Or.inr (by simp)
   ·exact Or.inr (fun e=>h e.symm))
  have hl3:=hl2.kept hg3 (new_ne (own_newB hl2.oa) (by omega)) (new_ne (own_newB hl2.oe) (by omega))
  have s1:=HG1.out.size
  have s2:=hgrow.size
  have hb3:=hb2.set 2 (.slice (some ⟨g2,0,none⟩) (ds.length+1) c2)
  have hc3:CtsR (w2.setCell ⟨fb,2,none⟩ (.slice (some ⟨g2,0,none⟩) (ds.length+1) c2)) la cs:=fun k x hx=>by
   obtain ⟨b,o,e,hat⟩:=hcs k x hx
   obtain ⟨hTb,hbf⟩:=hTl b o e
   refine ⟨b,o,e,hat.heap (Nat.le_trans s1 (Nat.le_trans s2 hg3.size)) ?_⟩
   rw [hg3.block b (by have:=hat.lt;omega) (fun e=>hbf (by injection e)),hgrow.block b (by have:=hat.lt;omega) (fun e=>by have:=t3 b e.symm;omega),HG1.out.block b hat.lt]
  refine ⟨hb2,?_⟩
  refine (addC_any (fb+1) _ fb (.slice (some ⟨g2,0,none⟩) (ds.length+1) c2) av ev Cs 87 hb3 (by omega) (by have:=hb3.lt;omega) hl3 la c cs hc3 hne hn1 hn2).mono ?_
  rintro e w' ⟨av',ev',hv,HB',HL',HLo,HFr,HEv⟩
  refine ⟨hv,⟨⟨av',ev',_,HB'.out,HL'.out,?_,?_⟩,by rw [List.length_append,List.length_singleton,←hlen];exact hn1⟩,?_⟩
  ·rw [List.map_append,List.length_append]
   refine ⟨by simp,Or.inr ?_⟩
   have ho3:=own_kept hown hg3 (new_ne (own_newB hown) (by omega))
   rcases ho3.2 with ⟨h',_⟩ | ⟨g',cap',cur,h',q1,q2,q3⟩
   ·cases h'
   ·simp only [Value.slice.injEq,Option.some.injEq,Addr.mk.injEq,and_true,true_and] at h'
    obtain ⟨rfl,rfl⟩:=h'
    refine ⟨g2,c2,cur,rfl,q1,(HFr.out g2 (Array.getElem?_eq_some_iff.1 q2).1 (by omega) (fun e=>?_) (fun e=>?_)).trans q2,q3⟩
    ·rcases own_ne hl3.oa ho3 (by decide) with h | h
     ·cases h
     ·exact h e
    ·rcases hplace with h | h
     ·rcases hsep with h' | h'
      ·rw [h] at h';cases h'
      ·exact h' (by rw [h];exact e)
     ·have:=own_lt HLS.out.oe g2 e.symm
      omega
  ·refine Or.inr (fun e=>?_)
   rcases HEv.out g2 e.symm with h | h
   ·rcases hplace with h2 | h2
    ·rcases hsep with h' | h'
     ·rw [h2] at h';cases h'
     ·exact h' (by rw [h2,h])
    ·have:=own_lt HLS.out.oe g2 h
     omega
   ·have h3:=own_lt hown g2 rfl
    have:=hg3.size
    have h4:(w2.setCell ⟨fb,2,none⟩ (.slice (some ⟨g2,0,none⟩) (ds.length+1) c2)).heap.size=w2.heap.size:=by simp [World.setCell]
    omega
  ·have b1:Below fb w w1:=HG1.out.mono (Nat.le_of_lt hfl)
   have b2:Below fb w1 w2:=grow_low hgrow (by omega) (fun k e=>by have:=own_newB HOD.out k e;omega)
   have b3:=(But.set fb 2 w2 (.slice (some ⟨g2,0,none⟩) (ds.length+1) c2)).below (Nat.le_refl _) (Nat.le_of_lt hb2.lt)
   exact b1.trans (b2.trans (b3.trans HLo.out))
 have HO1:Hid (w1.ownsRow (fb+1) 3 1 dv ds.length (ds.map nV)):=own_below HOD.out HG1.out
 have hsz:fb+1≤w1.heap.size:=by have:=HG1.out.size;omega
 have hdn:ds.length≤1000000000000:=by omega
 obtain ⟨n,En⟩:=exh cs.length
 rw [←En.out] at HNX
 rw [←En.out]
 clear h hbk hls hod hcs hne hT hTl hn1 hn2 t1 t2 t3 hsep HW1 hlen
 go_enter Try.func55,Try.ntmps55
 have tok:True:=trivial
 go_upto_region 1 with (have _t:=tok;at_builtin;(rw [←Ew1.out];refine app_int _ rfl (.tmp 10) (.tmp 12) rfl (fb+1) dv ds.length _ rfl HO1.out ⟨w.heap.size,0,none⟩ (d:Int) rfl HCL.out hdn hsz ?_;intro g2 c2 w2 hown hgrow hplace;obtain ⟨hb2,hcall⟩:=HNX.out g2 c2 w2 hown hgrow hplace;have y2:w2.cell? ⟨fb,2,none⟩=some dv:=hb2.cell (i:=2) rfl;have f2:=hb2.frozen 2;have HCA:=hidden hcall;clear tok hown hgrow hplace hb2 hcall))
 go_wp2_with fail
 go_at_call 68
 refine HCA.out.mono ?_
 rintro e w' ⟨⟨v,rfl⟩,H1,H2⟩
 go_wp2_with fail
 go_end0
 exact ⟨⟨_,rfl⟩,H1.out,H2.out⟩
end Go.Proofs.Ytlaljeobdddegaa

namespace Go.Proofs.Ytlaljeobdddegaa
open Go.RowKit Mp
theorem step_cut (w:World) {ops:Array Oper} {o:Oper} {a:Act} {K:Act→World→Prop} {Q:Exit→Act→World→Prop} {E:Prop} (hgd:o.guard=none) (s x:Operand)
  (ho:o.op = .call { callee:=.builtin .append,args:=#[s,x],argTypes:=#[83,83] })
  (base:Nat) (v:Value) (n:Nat) (xs:List Value) (hs:a.eval s=v) (hown:w.ownsRow base 114 8 v n xs) (b:Nat) (c:Ct) (hx:a.eval x = .slice (some ⟨b,0,none⟩) 1 1) (hy:Blk w b 114 (ctC c).toArray) (hn:n≤900000000000) (hbase:base≤w.heap.size)
  (h:∀ g cap w',w'.ownsRow base 114 8 (.slice (some ⟨g,0,none⟩) (n+1) cap) (n+1) (xs++ctC c)→w.grownBy w' v.ownBlock→K (a.put o.dst (.slice (some ⟨g,0,none⟩) (n+1) cap)) w'):if Region.wanted o (yielded ops a.tmps)=true then Oper.wp Try.prog o a w K Q else E:=by
 obtain ⟨i,hi,hz,hsz,hby⟩:=info_cut
 refine step_append_lies w hgd s x 83 ho base 114 i _ 8 64 cutsU hi hz hsz hby rfl (by decide) v n xs hs hown ⟨b,0,none⟩ 1 1 (ctC c) hx rfl (fun j u hu=>?_) (one_ctC c) (by decide) (by simp only [maxLen];omega) (by omega) hbase _ rfl ?_
 ·rw [addL,Nat.zero_add]
  exact hy.cell (by rw [List.getElem?_toArray];exact hu)
 ·intro g cap w' h1 h2 _ _
  exact h g cap w' h1 h2
structure FinF (Cs:List (List Ct)):Prop where
 has:HasC Cs
 each:∀ v,v<Cs.length→∀ c,c ∈ Cs.getD v []→Ris c.lv∧LvIn Cs.length c∧c.tb<65536
 few:∀ v,v<Cs.length→(Cs.getD v []).length≤257
theorem CtAt.blk {w:World} {b:Nat} {t:TypeId} {c:Ct} (h:Blk w b t (ctC c).toArray):CtAt w b 0 c:=CtAt.of h.lt (fun j v hv=>by rw [Nat.zero_add];exact h.cell (by rw [List.getElem?_toArray];exact hv))
theorem ctJ_in {n:Nat} {i j:Bool} {a b:Ct} (ha:LvIn n a) (hb:LvIn n b) (hl:(joinL a.lv b.lv).length≤4):LvIn n (ctJ i j a b):=⟨hl,fun u hu=>by
 rcases (joinL_mem _ _ _).1 hu with hu | hu
 ·exact ha.2 u hu
 ·exact hb.2 u hu⟩
theorem own_rowC {w:World} {C:Nat} {v:Value} {ks:List Ct} (h:w.ownsRow C 114 8 v ks.length (flC ks)):∃ ka kc,v = .slice ka ks.length kc∧CtsR w ka ks:=by
 rcases h.2 with ⟨rfl,h0⟩ | ⟨g,cap,cur,rfl,_,hg,_,_,h3,h4⟩
 ·have e:ks=[]:=List.eq_nil_of_length_eq_zero h0
  subst e
  exact ⟨none,0,rfl,fun k c hc=>by simp at hc⟩
 ·refine ⟨some ⟨g,0,none⟩,cap,rfl,fun k c hc=>⟨g,0,rfl,CtAt.of (Array.getElem?_eq_some_iff.1 hg).1 (fun j v hv=>?_)⟩⟩
  have h5:=flC_at hc hv
  have h6:=(List.getElem?_eq_some_iff.1 h5).1
  rw [flC_len] at h6
  rw [←h4,List.getElem?_take_of_lt h6,Array.getElem?_toList] at h5
  rw [Nat.zero_add]
  simp [World.cell?,hg,h5]
structure CoK (w w':World) (Cs:List (List Ct)) (kv:Value) (ks:List Ct):Prop where
 own:w'.ownsRow w.heap.size 114 8 kv ks.length (flC ks)
 bw:Bl w w'
 lv:∀ k,k ∈ ks→LvIn Cs.length k
 num:ks.length≤70000
theorem CoK.to {w w' w2:World} {Cs:List (List Ct)} {kv:Value} {ks:List Ct} (h:CoK w w' Cs kv ks) (hb:Bl w' w2):CoK w w2 Cs kv ks:=⟨own_below h.own hb,Bl.tr h.bw hb,h.lv,h.num⟩
theorem CoK.box {w w':World} {Cs:List (List Ct)} {kv:Value} {ks:List Ct} (h:CoK w w' Cs kv ks) {bb o:Nat} {x:Value} (hb:w.heap.size≤bb) (hk:some bb≠kv.ownBlock):CoK w (w'.setCell ⟨bb,o,none⟩ x) Cs kv ks :=
 ⟨own_kept h.own (But.set bb o w' x).grown (by
  cases e:kv.ownBlock with
  | none=>exact Or.inl rfl
  | some k=>exact Or.inr (fun h'=>hk (by rw [e];exact h'.symm))),h.bw.trans ((But.set bb o w' x).below hb h.bw.size),h.lv,h.num⟩
theorem CoK.eight {w w':World} {Cs:List (List Ct)} {kv:Value} {ks:List Ct} (h:CoK w w' Cs kv ks) {bb:Nat} {v0 v1 v2 v3 v4 v5 v6 v7:Value} (hb:w.heap.size≤bb) (hk:some bb≠kv.ownBlock):CoK w ((((((((w'.setCell ⟨bb,0,none⟩ v0).setCell ⟨bb,1,none⟩ v1).setCell ⟨bb,2,none⟩ v2).setCell ⟨bb,3,none⟩ v3).setCell ⟨bb,4,none⟩ v4).setCell ⟨bb,5,none⟩ v5).setCell ⟨bb,6,none⟩ v6).setCell ⟨bb,7,none⟩ v7) Cs kv ks:=(((((((h.box hb hk).box hb hk).box hb hk).box hb hk).box hb hk).box hb hk).box hb hk).box hb hk
end Go.Proofs.Ytlaljeobdddegaa
