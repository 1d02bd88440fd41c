import Derived.Test.YtlaljeobdddegaaJ04
import Derived.Laws.OwnMore
import Derived.Laws.BitsAllLaws
import Derived.Laws.BitsLemmas
import Derived.WideKeyPair
import Derived.WideKeyMaps2
import Derived.DeepKeys4
import Derived.Maps.OwnOps
namespace Go.Proofs.Ytlaljeobdddegaa
open Go.RowKit
theorem info_sl0:(Try.prog.info? 30).map (fun i=>(i.zero,i.size,i.bytes))=some (some (.slice none 0 0),1,24):=by kernel_rfl
theorem info_sl:∃ i,Try.prog.info? 30=some i∧i.zero=some (.slice none 0 0)∧i.size=1∧i.bytes=24:=by
 have h:=info_sl0
 cases hi:Try.prog.info? 30 with
 | none=>rw [hi] at h;cases h
 | some i=>rw [hi] at h;simp at h;exact ⟨i,rfl,h.1,h.2.1,h.2.2⟩
set_option maxRecDepth 100000 in
set_option maxHeartbeats 4000000 in
theorem lit_any (w:World) (a:Option Addr) (c:Nat) (v:List Bool) (hv:RowAt w.heap.size w a 1 (v.map bC)) (hlen:v.length<big) (l:Int) (hl:InV v l) :
  Calls Try.prog 44 #[.slice a v.length c,.int .i64 l] w fun e w'=>e = .returned (.bool (litV v l))∧w'=w:=by
 obtain ⟨h0,h1⟩:=hl
 simp only [big] at hlen
 obtain ⟨x,hx⟩:∃ x,v[(l / 2).toNat]?=some x:=⟨v[(l / 2).toNat]'(by omega),List.getElem?_eq_getElem (by omega)⟩
 obtain ⟨b,o,rfl,hb,hc⟩:=rowB hv hx
 have e:litV v l=(x != decide (l % 2=1)):=by unfold litV;rw [hx];rfl
 rw [e]
 have hlt:l / 2<(v.length:Int):=by omega
 have h2:0≤l / 2:=by omega
 have q1:Int.tdiv l 2=l / 2:=by rw [Int.tdiv_eq_ediv_of_nonneg h0]
 have q2:Int.tmod l 2=l % 2:=by rw [Int.tmod_eq_emod_of_nonneg h0]
 clear e hx hv
 generalize l / 2=m at *
 generalize hr:l % 2=r at *
 have e1:IntKind.i64.wrap m=m:=wrapI _ (by omega) (by omega)
 have e2:IntKind.i64.wrap r=r:=wrapI _ (by omega) (by omega)
 go_enter Try.func44,Try.ntmps44
 go_wp2
 go_ret
 refine ⟨ret_bool ?_,rfl⟩
 have er:(r == 1)=decide (r=1):=by rw [Bool.eq_iff_iff];simp
 cases x <;> simp [er]
end Go.Proofs.Ytlaljeobdddegaa

namespace Go.Proofs.Ytlaljeobdddegaa
open Go.RowKit
def inRow (n:Nat) (row:List Bool):List Bool:=(List.range n).map fun i=>row[i]?.getD false
def andsN (v:List Bool) (l:List AndD):List Bool:=l.foldl (fun v d=>v++[litV v d.x && litV v d.y]) v
def cycN (G:GrD) (row st:List Bool):List Bool:=andsN ([false]++inRow G.ins.toNat row++st) G.ands
def initN (G:GrD):List Bool:=G.lats.map LatD.init
def outN (G:GrD) (v:List Bool):List Bool:=G.outs.map (litV v)
def nextN (G:GrD) (v:List Bool):List Bool:=G.lats.map fun d=>litV v d.next
def stN (G:GrD) (st:List Bool) (tr:List (List Bool)):List Bool:=tr.foldl (fun st r=>nextN G (cycN G r st)) st
def runN (G:GrD):List (List Bool)→List Bool→List (List Bool)
 | [],_=>[]
 | r :: t,st=>outN G (cycN G r st) :: runN G t (nextN G (cycN G r st))
theorem run_snoc (G:GrD) (l:List (List Bool)) (r:List Bool) (st:List Bool):runN G (l++[r]) st=runN G l st++[outN G (cycN G r (stN G st l))]:=by
 induction l generalizing st with
 | nil=>rfl
 | cons a t ih=>simp only [List.cons_append,runN,ih];rfl
theorem st_snoc (G:GrD) (l:List (List Bool)) (r:List Bool) (st:List Bool):stN G st (l++[r])=nextN G (cycN G r (stN G st l)):=by
 unfold stN;rw [List.foldl_append];rfl
theorem ands_length (v:List Bool) (l:List AndD):(andsN v l).length=v.length+l.length:=by
 induction l generalizing v with
 | nil=>rfl
 | cons a t ih=>unfold andsN at *;rw [List.foldl_cons,ih];simp;omega
theorem ands_snoc (v:List Bool) (l:List AndD) (d:AndD):andsN v (l++[d])=andsN v l++[litV (andsN v l) d.x && litV (andsN v l) d.y]:=by
 unfold andsN;rw [List.foldl_append];rfl
theorem inRow_length (n:Nat) (row:List Bool):(inRow n row).length=n:=by unfold inRow;simp
theorem inRow_next (n:Nat) (row:List Bool):inRow (n+1) row=inRow n row++[row[n]?.getD false]:=by unfold inRow;rw [List.range_succ,List.map_append];rfl
theorem cyc_length (G:GrD) (row st:List Bool):(cycN G row st).length=1+G.ins.toNat+st.length+G.ands.length:=by
 unfold cycN;rw [ands_length];simp [inRow_length];omega
theorem st_length (G:GrD) (tr:List (List Bool)) (st:List Bool) (h:st.length=G.lats.length):(stN G st tr).length=G.lats.length:=by
 induction tr generalizing st with
 | nil=>exact h
 | cons a t ih=>exact ih (nextN G (cycN G a st)) (by unfold nextN;simp)
def BS (w:World) (v:Value) (l:List Bool):Prop:=(v = .slice none 0 0∧l=[])∨∃ b o c,v = .slice (some ⟨b,o,none⟩) l.length c∧b<w.heap.size∧∀ (i:Nat) (x:Bool),l[i]?=some x→w.cell? ⟨b,o+i,none⟩=some (.bool x)
theorem BS.to {w w':World} {v:Value} {l:List Bool} (h:BS w v l) (hb:Below w.heap.size w w'):BS w' v l:=by
 rcases h with h | ⟨b,o,c,hv,hlt,hc⟩
 ·exact .inl h
 ·exact .inr ⟨b,o,c,hv,Nat.lt_of_lt_of_le hlt hb.size,fun i x hx=>(hb.cell (p:=⟨b,o+i,none⟩) hlt).trans (hc i x hx)⟩
theorem BS.of {w:World} {C n:Nat} {v:Value} {l:List Bool} (h:w.ownsRow C 4 1 v n (l.map bV)):BS w v l:=by
 have hl:n=l.length:=by have:=h.1;simp at this;omega
 rcases h.2 with ⟨h0,h1⟩ | ⟨g,cap,cur,hv,h1⟩
 ·exact .inl ⟨h0,List.eq_nil_of_length_eq_zero (by omega)⟩
 ·refine .inr ⟨g,0,cap,by rw [hv,hl],(h.lt g (by rw [hv];rfl)).2,fun i x hx=>?_⟩
  have:=h.cells (g:=g) (by rw [hv];rfl) i (.bool x) (by rw [List.getElem?_map,hx];rfl)
  rw [add0] at this
  simpa using this
theorem BS.row {w:World} {v:Value} {l:List Bool} (h:BS w v l):∃ a c,v = .slice a l.length c∧RowAt w.heap.size w a 1 (l.map bC):=by
 rcases h with ⟨rfl,rfl⟩ | ⟨b,o,c,hv,hlt,hc⟩
 ·exact ⟨none,0,rfl,rowAt_nil⟩
 ·refine ⟨_,c,hv,fun _=>⟨b,o,rfl,hlt,fun i cs hi j x hx=>?_⟩⟩
  rw [List.getElem?_map] at hi
  cases hy:l[i]? with
  | none=>rw [hy] at hi;cases hi
  | some y =>
   rw [hy] at hi
   have e:[Value.bool y]=cs:=by simpa [bC] using hi
   subst e
   cases j with
   | succ j=>simp at hx
   | zero =>
    have ex:Value.bool y=x:=by simpa using hx
    subst ex
    simpa using hc i y hy
set_option maxRecDepth 100000 in
set_option maxHeartbeats 4000000 in
theorem states_any (B:Nat) (w:World) (S:GrS) (G:GrD) (h:GrAt B w S G) (hB:B≤w.heap.size) :
  Calls Try.prog 10 #[.agg (S.cells G)] w fun e w'=>∃ v,e = .returned v∧w'.ownsRow w.heap.size 4 1 v G.lats.length ((initN G).map bV)∧Below w.heap.size w w':=by
 have hlen:=h.ll
 simp only [big] at hlen
 unfold GrS.cells
 obtain ⟨ib,hib,hzb,hsb,hbb⟩:=info_bool
 have HI:=hidden hib
 have HZ:=hidden hzb
 have HS:=hidden hsb
 have HBY:=hidden hbb
 clear hib hzb hsb hbb
 go_enter Try.func10,Try.ntmps10
 go_wp2_with fail
 generalize hW:World.alloc w _=W
 have HB:Hid (Below w.heap.size w W):=by rw [←hW];exact (Below.refl _ _).alloc (Nat.le_refl _) _
 have hN:w.heap.size<W.heap.size:=by rw [←hW];simp
 have HX:Hid (BoxAt W w.heap.size S G):=by
  rw [←hW]
  exact ⟨by simp,by simp,by simp,by simp,by simp⟩
 have HAW:Hid (GrAt B W S G):=h.to (HB.out.mono hB)
 have hBW:B≤W.heap.size:=Nat.le_trans hB HB.out.size
 clear hW h
 go_loopw [3,4] (fun v i' w'=>∃ (k:Nat),k≤G.lats.length∧i' = .int .i64 k∧Hid (w'.ownsRow W.heap.size 4 1 v k (((G.lats.take k).map LatD.init).map bV))∧Hid (Below W.heap.size W w')) (fun _ i' _=>G.lats.length - (intOf i').toNat)
 case atStart=>exact ⟨0,Nat.zero_le _,rfl,World.ownsRow_nil _ _ _ _,Below.refl _ _⟩
 case round =>
  obtain ⟨k,hk,rfl,HO,HBr⟩:=hrel
  have q1R:=(HBr.out.cell (p:=⟨w.heap.size,1,none⟩) hN).trans HX.out.c1
  by_cases hlt:k<G.lats.length
  ·obtain ⟨z,hz⟩:=getElem_lt hlt
   obtain ⟨rb,ro,ea,hrb,hrc⟩:=HAW.out.l.el hz
   have c1:=(HBr.out.cell (p:=⟨rb,ro+k*2+1,none⟩) (Nat.lt_of_lt_of_le hrb hBW)).trans (hrc 1 _ rfl)
   rw [ea] at q1R
   have HNX:Hid (((G.lats.take (k+1)).map LatD.init).map bV=((G.lats.take k).map LatD.init).map bV++[.bool z.init]):=by
    show _=_
    rw [take_next _ k z hz,List.map_append,List.map_append];rfl
   generalize z.init=x at *
   have hltI:(k:Int)<(G.lats.length:Int):=by omega
   have e3:IntKind.i64.wrap ((k:Int)+1)=(k:Int)+1:=wrapI _ (by omega) (by omega)
   have hm1:k+1≤maxLen:=by simp only [maxLen];omega
   have hm2:(k+1)*1≤140737488355328:=by omega
   have hsz:=HBr.out.size
   have hm3:W.heap.size≤(wr.alloc (.cells #[.bool x] 4)).heap.size:=by simp;omega
   clear hrc ea hz hrb
   have tok:True:=trivial
   go_wp2_with (have _t:=tok;at_builtin;(refine wpList_append_lies _ rfl (.tmp 12) (.tmp 19) 30 rfl W.heap.size 4 ib _ 1 1 Try.underlying30 HI.out HZ.out HS.out HBY.out rfl (by decide) u3 k _ rfl (HO.out.alloc _) ⟨wr.heap.size,0,none⟩ 1 1 [.bool x] rfl rfl (World.news_of_block (heap_new _ _)) (by simp [Value.oneCell']) (by decide) hm1 hm2 hm3 _ rfl ?_;intro g cap w5 hown hgrow hat5 hlt5;clear tok))
   have HO5:Hid (w5.ownsRow W.heap.size 4 1 (.slice (some ⟨g,0,none⟩) (k+1) cap) (k+1) (((G.lats.take (k+1)).map LatD.init).map bV)):=by
    show World.ownsRow _ _ _ _ _ _ _
    rw [HNX.out]
    exact hown
   have HB5:Hid (Below W.heap.size W w5):=grown_plain HBr.out HO.out hgrow
   clear hown hgrow hat5 hlt5 hm1 hm2 hm3 HO HBr HNX
   go_wp2
   go_roundw
   case measure=>simp [intOf];omega
   case rel=>exact ⟨k+1,by omega,by simp,HO5.out,HB5.out⟩
  ·have hge:¬ ((k:Int)<(G.lats.length:Int)):=by omega
   have HO6:Hid (wr.ownsRow W.heap.size 4 1 u3 G.lats.length ((initN G).map bV)):=by
    have:=HO.out
    rw [List.take_of_length_le (by omega),show k=G.lats.length by omega] at this
    exact this
   clear HO
   go_wp2
   go_ret
   exact ⟨_,rfl,own_mono HO6.out HB.out.size,HB.out.trans (HBr.out.mono HB.out.size)⟩
end Go.Proofs.Ytlaljeobdddegaa

namespace Go.Proofs.Ytlaljeobdddegaa
open Go.RowKit
def firstN (G:GrD):Nat:=1+G.ins.toNat+G.lats.length
structure FineG (G:GrD) (ni n:Nat):Prop where
 ins:G.ins=(ni:Int)
 first:firstN G=1+ni+G.lats.length
 all:firstN G+G.ands.length=n
 le:n≤60000
 ll:G.lats.length≤6000
 lo:G.outs.length≤60000
 ands:∀ (k:Nat) (d:AndD),G.ands[k]?=some d→(0≤d.x∧d.x<2*((firstN G+k:Nat):Int))∧(0≤d.y∧d.y<2*((firstN G+k:Nat):Int))
 lats:∀ z,z ∈ G.lats→0≤z.next∧z.next<2*(n:Int)
 outs:∀ z,z ∈ G.outs→0≤z∧z<2*(n:Int)
theorem fine_of {G:GrD} (h:GrOk G=true):∃ ni n,FineG G ni n:=by
 unfold GrOk at h
 simp only [Bool.and_eq_true,decide_eq_true_eq] at h
 obtain ⟨⟨⟨⟨h0,h1,h2,h3,h4⟩,ha⟩,hl⟩,ho⟩:=h
 have hf:G.first=(firstN G:Int):=by unfold GrD.first firstN;omega
 have hv:G.vars=((firstN G+G.ands.length:Nat):Int):=by unfold GrD.vars;rw [hf];omega
 refine ⟨G.ins.toNat,firstN G+G.ands.length,by omega,rfl,rfl,by omega,h2,h3,?_,?_,?_⟩
 ·intro k d hd
  have hk:=(List.getElem?_eq_some_iff.1 hd).1
  have:=List.all_eq_true.1 ha k (List.mem_range.2 hk)
  rw [andOk_of hd,hf] at this
  simp only [litOk,Bool.and_eq_true,decide_eq_true_eq] at this
  omega
 ·intro z hz
  have:=List.all_eq_true.1 hl z hz
  unfold latOk at this
  rw [hv] at this
  simpa only [litOk,decide_eq_true_eq] using this
 ·intro z hz
  have:=List.all_eq_true.1 ho z hz
  rw [hv] at this
  simpa only [litOk,decide_eq_true_eq] using this
theorem own_row {w:World} {C e sz n:Nat} {v:Value} {els:List (List Value)} (h:w.ownsRow C e sz v n els.flatten) (hs:∀ l,l ∈ els→l.length=sz) (hz:0<sz):∃ a c,v = .slice a n c∧RowAt w.heap.size w a sz els:=by
 rcases h.2 with ⟨h0,h1⟩ | ⟨g,cap,cur,hv,h1⟩
 ·refine ⟨none,0,by rw [h0,h1],?_⟩
  have hl:=h.1
  rw [h1,Nat.zero_mul] at hl
  intro hne
  exfalso
  cases els with
  | nil=>exact hne rfl
  | cons x t =>
   have:=hs x List.mem_cons_self
   rw [List.flatten_cons,List.length_append] at hl
   omega
 ·subst hv
  refine ⟨_,cap,rfl,rowAt_flat (h.lt g rfl).2 hs fun m v hm=>?_⟩
  have:=(List.getElem?_eq_some_iff.1 hm).1
  rw [h.cellAt m (by have:=h.1;omega)];exact hm
end Go.Proofs.Ytlaljeobdddegaa

namespace Go.Proofs.Ytlaljeobdddegaa
open Go.RowKit
def flipI (x:Int):Int:=if x % 2=0 then x+1 else x - 1
def renL (lits:List Int) (l:Int):Int:=if l % 2=1 then flipI (lits.getD (l / 2).toNat 0) else lits.getD (l / 2).toNat 0
def findG:List AndD→Int→Int→Option Nat
 | [],_,_=>none
 | d :: r,p,q=>if d.x=p∧d.y=q then some 0 else (findG r p q).map (· + 1)
def andH (first:Nat) (hs:List AndD) (a b:Int):List AndD × Int :=
 if min a b=0∨max a b=flipI (min a b) then (hs,0)
 else if min a b=1∨max a b=min a b then (hs,max a b)
 else match findG hs (max a b) (min a b) with
  | some i=>(hs,2*((first:Int)+(i:Int)))
  | none=>(hs++[⟨max a b,min a b⟩],2*((first:Int)+(hs.length:Int)))
def stepH (first:Nat) (s:List AndD × List Int) (d:AndD):List AndD × List Int :=
 ((andH first s.1 (renL s.2 d.x) (renL s.2 d.y)).1,s.2++[(andH first s.1 (renL s.2 d.x) (renL s.2 d.y)).2])
def startH (first:Nat):List AndD × List Int:=([],(List.range first).map fun v:Nat=>2*(v:Int))
def hashK (first:Nat) (ands:List AndD):List AndD × List Int:=ands.foldl (stepH first) (startH first)
def hashG (G:GrD):GrD :=
 let s:=hashK (firstN G) G.ands
 ⟨G.ins,G.lats.map fun l=>⟨renL s.2 l.next,l.init⟩,s.1,G.outs.map (renL s.2)⟩
theorem hashK_next (first:Nat) (ands:List AndD) (d:AndD):hashK first (ands++[d])=stepH first (hashK first ands) d:=by unfold hashK;rw [List.foldl_append];rfl
theorem flipI_facts (x:Int) (h:0≤x):0≤flipI x∧flipI x / 2=x / 2∧(flipI x % 2=1↔¬ x % 2=1)∧flipI x≤x+1:=by
 unfold flipI
 split <;> omega
theorem litV_flip (v:List Bool) (x:Int) (h:0≤x):litV v (flipI x) = !litV v x:=by
 obtain ⟨_,h2,h3,_⟩:=flipI_facts x h
 unfold litV
 rw [h2]
 generalize (v[(x / 2).toNat]?.getD false)=b
 by_cases hx:x % 2=1
 ·have:¬ flipI x % 2=1:=fun e=>(h3.1 e) hx
  simp [hx,this]
 ·have:flipI x % 2=1:=h3.2 hx
  simp [hx,this]
theorem litV_app (v w:List Bool) (x:Int) (h0:0≤x) (h:x<2*(v.length:Int)):litV (v++w) x=litV v x:=by
 unfold litV
 rw [List.getElem?_append_left (by omega)]
theorem ands_app (v:List Bool) (l m:List AndD):∃ r,andsN v (l++m)=andsN v l++r:=by
 induction m generalizing l with
 | nil=>exact ⟨[],by simp⟩
 | cons d m ih =>
  obtain ⟨r,hr⟩:=ih (l++[d])
  refine ⟨[litV (andsN v l) d.x && litV (andsN v l) d.y]++r,?_⟩
  rw [show l++d :: m=(l++[d])++m by simp,hr,ands_snoc,List.append_assoc]
structure HsOk (first:Nat) (hs:List AndD):Prop where
 low:∀ (i:Nat) (d:AndD),hs[i]?=some d→2≤d.y∧d.y<d.x∧¬ d.x / 2=d.y / 2∧d.x<2*((first:Int)+(i:Int))
 one:∀ (i j:Nat) (d e:AndD),hs[i]?=some d→hs[j]?=some e→d.x=e.x→d.y=e.y→i=j
theorem findG_some {hs:List AndD} {p q:Int} {i:Nat} (h:findG hs p q=some i):∃ d,hs[i]?=some d∧d.x=p∧d.y=q:=by
 induction hs generalizing i with
 | nil=>cases h
 | cons d r ih =>
  unfold findG at h
  split at h
  ·next hd =>
   have:i=0:=by simpa using h.symm
   subst this
   exact ⟨d,rfl,hd.1,hd.2⟩
  ·cases hr:findG r p q with
   | none=>rw [hr] at h;cases h
   | some j =>
    rw [hr] at h
    have:i=j+1:=by simpa using h.symm
    subst this
    obtain ⟨e,he⟩:=ih hr
    exact ⟨e,by simpa using he⟩
theorem findG_none {hs:List AndD} {p q:Int} (h:findG hs p q=none):∀ (i:Nat) (d:AndD),hs[i]?=some d→¬ (d.x=p∧d.y=q):=by
 induction hs with
 | nil=>intro i d hd;simp at hd
 | cons e r ih =>
  unfold findG at h
  split at h
  ·cases h
  ·next hne =>
   have hr:findG r p q=none:=by simpa using h
   intro i d hd
   cases i with
   | zero =>
    have:e=d:=by simpa using hd
    rw [←this];exact hne
   | succ i=>exact ih hr i d (by simpa using hd)
theorem made_val {first:Nat} {hs:List AndD} (h:HsOk first hs) {v0:List Bool} (hv:v0.length=first) {i:Nat} {d:AndD} (hd:hs[i]?=some d):litV (andsN v0 hs) (2*((first:Int)+(i:Int)))=(litV (andsN v0 hs) d.x && litV (andsN v0 hs) d.y):=by
 have hi:=(List.getElem?_eq_some_iff.1 hd).1
 have hl:=h.low i d hd
 have e1:hs=hs.take i++[d]++hs.drop (i+1):=by
  rw [←take_next hs i d hd,List.take_append_drop]
 obtain ⟨r,hr⟩:=ands_app v0 (hs.take i++[d]) (hs.drop (i+1))
 rw [←e1,ands_snoc] at hr
 have hlen:(andsN v0 (hs.take i)).length=first+i:=by rw [ands_length,List.length_take,hv];omega
 generalize andsN v0 (hs.take i)=V at *
 rw [hr]
 have e2:∀ x:Int,0≤x→x<2*((first:Int)+(i:Int))→litV (V++[litV V d.x && litV V d.y]++r) x=litV V x:=fun x h0 h1=>by
  rw [List.append_assoc];exact litV_app _ _ x h0 (by rw [hlen];omega)
 rw [e2 d.x (by omega) (by omega),e2 d.y (by omega) (by omega)]
 unfold litV
 have e3:(2*((first:Int)+(i:Int)) / 2).toNat=V.length:=by omega
 rw [e3,List.append_assoc,List.getElem?_append_right (Nat.le_refl _)]
 simp
theorem andH_ok {first:Nat} {hs:List AndD} (hf:1≤first) (h:HsOk first hs) {a b:Int} (ha:0≤a∧a<2*((first:Int)+(hs.length:Int))) (hb:0≤b∧b<2*((first:Int)+(hs.length:Int))) :
  (∃ r,(andH first hs a b).1=hs++r∧r.length≤1)∧HsOk first (andH first hs a b).1∧(0≤(andH first hs a b).2∧(andH first hs a b).2<2*((first:Int)+((andH first hs a b).1.length:Int))) ∧
  ∀ v0:List Bool,v0.length=first→v0[0]?=some false→litV (andsN v0 (andH first hs a b).1) (andH first hs a b).2=(litV (andsN v0 hs) a && litV (andsN v0 hs) b):=by
 have comm:∀ (V:List Bool),(litV V a && litV V b)=(litV V (max a b) && litV V (min a b)):=fun V=>by
  by_cases hab:a≤b
  ·rw [show max a b=b by omega,show min a b=a by omega,Bool.and_comm]
  ·rw [show max a b=a by omega,show min a b=b by omega]
 have hmx:0≤max a b∧max a b<2*((first:Int)+(hs.length:Int)):=by omega
 have hmn:0≤min a b∧min a b≤max a b:=by omega
 simp only [comm]
 unfold andH
 generalize max a b=mx at *
 generalize min a b=mn at *
 have zero:∀ v0:List Bool,v0.length=first→v0[0]?=some false→litV (andsN v0 hs) 0=false:=fun v0 _ h0=>by
  obtain ⟨r,hr⟩:=ands_app v0 [] hs
  rw [List.nil_append] at hr
  rw [hr]
  have:andsN v0 []=v0:=rfl
  rw [this]
  unfold litV
  rw [show ((0:Int) / 2).toNat=0 by omega,List.getElem?_append_left (by have:=(List.getElem?_eq_some_iff.1 h0).1;omega),h0]
  simp
 split
 ·next hc =>
  refine ⟨⟨[],by simp,by simp⟩,h,by omega,fun v0 hv h0=>?_⟩
  rw [zero v0 hv h0]
  rcases hc with hc | hc
  ·rw [hc,zero v0 hv h0];simp
  ·rw [hc,litV_flip _ _ hmn.1];simp
 ·next hc =>
  split
  ·next hd =>
   refine ⟨⟨[],by simp,by simp⟩,h,hmx,fun v0 hv h0=>?_⟩
   rcases hd with hd | hd
   ·have one:litV (andsN v0 hs) 1=true:=by
     have:=litV_flip (andsN v0 hs) 0 (by omega)
     rw [zero v0 hv h0] at this
     exact this
    rw [hd,one];simp
   ·rw [hd];simp
  ·next hd =>
   split
   ·next i hi =>
    obtain ⟨d,hdd,hx,hy⟩:=findG_some hi
    have hil:=(List.getElem?_eq_some_iff.1 hdd).1
    refine ⟨⟨[],by simp,by simp⟩,h,by simp only;omega,fun v0 hv h0=>?_⟩
    rw [made_val h hv hdd,hx,hy]
   ·next hn =>
    have hno:=findG_none hn
    have hbig:2≤mn:=by omega
    have hlt:mn<mx:=by omega
    have hdv:¬ mx / 2=mn / 2:=by
     intro e
     apply hc
     right
     unfold flipI
     split <;> omega
    have hok:HsOk first (hs++[⟨mx,mn⟩]):=by
     refine ⟨fun i d hd=>?_,fun i j d e hd he h1 h2=>?_⟩
     ·rcases Nat.lt_or_ge i hs.length with hi | hi
      ·rw [List.getElem?_append_left hi] at hd;exact h.low i d hd
      ·rw [List.getElem?_append_right hi] at hd
       have hi2:i - hs.length=0:=by have:=(List.getElem?_eq_some_iff.1 hd).1;simp at this;omega
       rw [hi2] at hd
       have:(⟨mx,mn⟩:AndD)=d:=by simpa using hd
       subst this
       simp only
       omega
     ·rcases Nat.lt_or_ge i hs.length with hi | hi <;> rcases Nat.lt_or_ge j hs.length with hj | hj
      ·rw [List.getElem?_append_left hi] at hd
       rw [List.getElem?_append_left hj] at he
       exact h.one i j d e hd he h1 h2
      ·rw [List.getElem?_append_left hi] at hd
       rw [List.getElem?_append_right hj] at he
       have hj2:j - hs.length=0:=by have:=(List.getElem?_eq_some_iff.1 he).1;simp at this;omega
       rw [hj2] at he
       have:(⟨mx,mn⟩:AndD)=e:=by simpa using he
       subst this
       exact absurd ⟨h1,h2⟩ (hno i d hd)
      ·rw [List.getElem?_append_right hi] at hd
       rw [List.getElem?_append_left hj] at he
       have hi2:i - hs.length=0:=by have:=(List.getElem?_eq_some_iff.1 hd).1;simp at this;omega
       rw [hi2] at hd
       have:(⟨mx,mn⟩:AndD)=d:=by simpa using hd
       subst this
       exact absurd ⟨h1.symm,h2.symm⟩ (hno j e he)
      ·have h3:=(List.getElem?_eq_some_iff.1 hd).1
       have h4:=(List.getElem?_eq_some_iff.1 he).1
       simp at h3 h4
       omega
    refine ⟨⟨[⟨mx,mn⟩],rfl,by simp⟩,hok,by simp only [List.length_append,List.length_cons,List.length_nil];omega,fun v0 hv h0=>?_⟩
    have hge:(hs++[(⟨mx,mn⟩:AndD)])[hs.length]?=some ⟨mx,mn⟩:=by simp
    rw [made_val hok hv hge]
    have hlen:(andsN v0 hs).length=first+hs.length:=by rw [ands_length,hv]
    obtain ⟨r,hr⟩:=ands_app v0 hs [(⟨mx,mn⟩:AndD)]
    rw [hr]
    simp only
    rw [litV_app _ _ mx hmx.1 (by rw [hlen];omega),litV_app _ _ mn hmn.1 (by rw [hlen];omega)]
end Go.Proofs.Ytlaljeobdddegaa

namespace Go.Proofs.Ytlaljeobdddegaa
open Go.RowKit
structure HashOk (first:Nat) (ands:List AndD) (s:List AndD × List Int):Prop where
 hs:HsOk first s.1
 len:s.2.length=first+ands.length
 few:s.1.length≤ands.length
 lits:∀ (v:Nat) (x:Int),s.2[v]?=some x→0≤x∧x<2*((first:Int)+(s.1.length:Int))
 same:∀ v0:List Bool,v0.length=first→v0[0]?=some false→∀ (v:Nat) (x:Int),s.2[v]?=some x→litV (andsN v0 s.1) x=(andsN v0 ands)[v]?.getD false
theorem renL_ok {first:Nat} {ands:List AndD} {s:List AndD × List Int} (h:HashOk first ands s) {l:Int} (h0:0≤l) (h1:l<2*((first:Int)+(ands.length:Int))) :
  (0≤renL s.2 l∧renL s.2 l<2*((first:Int)+(s.1.length:Int)))∧∀ v0:List Bool,v0.length=first→v0[0]?=some false→litV (andsN v0 s.1) (renL s.2 l)=litV (andsN v0 ands) l:=by
 have hv:(l / 2).toNat<s.2.length:=by rw [h.len];omega
 obtain ⟨x,hx⟩:=getElem_lt hv
 have hd:s.2.getD (l / 2).toNat 0=x:=by rw [List.getD_eq_getElem?_getD,hx];rfl
 have hl:=h.lits _ x hx
 obtain ⟨f1,f2,f3,f4⟩:=flipI_facts x hl.1
 unfold renL
 rw [hd]
 refine ⟨?_,fun v0 hv0 h00=>?_⟩
 ·split
  ·refine ⟨f1,?_⟩
   have:flipI x / 2<(first:Int)+(s.1.length:Int):=by rw [f2];omega
   omega
  ·exact hl
 ·have hs:=h.same v0 hv0 h00 _ x hx
  by_cases hb:l % 2=1
  ·rw [if_pos hb,litV_flip _ _ hl.1,hs]
   unfold litV
   simp [hb]
  ·rw [if_neg hb,hs]
   unfold litV
   simp [hb]
theorem hash_start (first:Nat):HashOk first [] (startH first):=by
 refine ⟨⟨fun i d h=>by simp [startH] at h,fun i j d e h=>by simp [startH] at h⟩,by simp [startH],by simp [startH],fun v x hx=>?_,fun v0 hv h0 v x hx=>?_⟩
 ·unfold startH at hx
  rw [List.getElem?_map] at hx
  have hlt:v<first:=by
   rcases Nat.lt_or_ge v first with h | h
   ·exact h
   ·rw [List.getElem?_eq_none (by simpa using h)] at hx;cases hx
  rw [List.getElem?_range hlt] at hx
  have:2*(v:Int)=x:=by simpa using hx
  simp only [startH,List.length_nil]
  omega
 ·unfold startH at hx
  rw [List.getElem?_map] at hx
  have hlt:v<first:=by
   rcases Nat.lt_or_ge v first with h | h
   ·exact h
   ·rw [List.getElem?_eq_none (by simpa using h)] at hx;cases hx
  rw [List.getElem?_range hlt] at hx
  have e:2*(v:Int)=x:=by simpa using hx
  subst e
  show litV v0 _=v0[v]?.getD false
  unfold litV
  rw [show (2*(v:Int) / 2).toNat=v by omega]
  simp
theorem hash_step {first:Nat} (hf:1≤first) {ands:List AndD} {s:List AndD × List Int} (h:HashOk first ands s) {d:AndD} (hx:0≤d.x∧d.x<2*((first:Int)+(ands.length:Int))) (hy:0≤d.y∧d.y<2*((first:Int)+(ands.length:Int))):HashOk first (ands++[d]) (stepH first s d):=by
 obtain ⟨rx,sx⟩:=renL_ok h hx.1 hx.2
 obtain ⟨ry,sy⟩:=renL_ok h hy.1 hy.2
 obtain ⟨⟨r,hr,hrl⟩,hok,hlit,hval⟩:=andH_ok hf h.hs rx ry
 unfold stepH
 generalize hA:andH first s.1 (renL s.2 d.x) (renL s.2 d.y)=A at *
 have hle:s.1.length≤A.1.length:=by rw [hr,List.length_append];omega
 have keep:∀ v0:List Bool,v0.length=first→∀ x:Int,0≤x→x<2*((first:Int)+(s.1.length:Int))→litV (andsN v0 A.1) x=litV (andsN v0 s.1) x:=fun v0 hv x h0 h1=>by
  obtain ⟨r2,hr2⟩:=ands_app v0 s.1 r
  rw [hr,hr2]
  exact litV_app _ _ x h0 (by rw [ands_length,hv];omega)
 refine ⟨hok,by simp [h.len];omega,by simp only [List.length_append,List.length_cons,List.length_nil];have:=h.few;rw [hr,List.length_append];omega,fun v x hv=>?_,fun v0 hv0 h00 v x hv=>?_⟩
 ·simp only at hv
  rcases Nat.lt_or_ge v s.2.length with h1 | h1
  ·rw [List.getElem?_append_left h1] at hv
   have:=h.lits v x hv
   simp only
   omega
  ·rw [List.getElem?_append_right h1] at hv
   have h2:v - s.2.length=0:=by have:=(List.getElem?_eq_some_iff.1 hv).1;simp at this;omega
   rw [h2] at hv
   have:A.2=x:=by simpa using hv
   rw [←this];exact hlit
 ·simp only at hv ⊢
  rw [ands_snoc]
  have hal:(andsN v0 ands).length=first+ands.length:=by rw [ands_length,hv0]
  rcases Nat.lt_or_ge v s.2.length with h1 | h1
  ·rw [List.getElem?_append_left h1] at hv
   have hl:=h.lits v x hv
   rw [keep v0 hv0 x hl.1 hl.2,h.same v0 hv0 h00 v x hv,List.getElem?_append_left (by rw [hal,←h.len];exact h1)]
  ·rw [List.getElem?_append_right h1] at hv
   have h2:v - s.2.length=0:=by have:=(List.getElem?_eq_some_iff.1 hv).1;simp at this;omega
   rw [h2] at hv
   have e:A.2=x:=by simpa using hv
   rw [←e,hval v0 hv0 h00,sx v0 hv0 h00,sy v0 hv0 h00]
   have hvl:v=first+ands.length:=by rw [←h.len];omega
   rw [hvl,←hal,List.getElem?_append_right (Nat.le_refl _)]
   simp
theorem hash_all {first:Nat} (hf:1≤first) (ands:List AndD) (h:∀ (k:Nat) (d:AndD),ands[k]?=some d→(0≤d.x∧d.x<2*((first+k:Nat):Int))∧(0≤d.y∧d.y<2*((first+k:Nat):Int))):HashOk first ands (hashK first ands):=by
 have key:∀ k,k≤ands.length→HashOk first (ands.take k) (hashK first (ands.take k)):=by
  intro k
  induction k with
  | zero=>intro _;exact hash_start first
  | succ k ih =>
   intro hk
   obtain ⟨d,hd⟩:=getElem_lt (show k<ands.length by omega)
   rw [take_next ands k d hd,hashK_next]
   have h1:=h k d hd
   have hl:(ands.take k).length=k:=by rw [List.length_take];omega
   exact hash_step hf (ih (by omega)) (by rw [hl];omega) (by rw [hl];omega)
 have:=key ands.length (Nat.le_refl _)
 rw [List.take_length] at this
 exact this
theorem hash_same {G:GrD} {ni n:Nat} (hF:FineG G ni n) (row st:List Bool) (hst:st.length=G.lats.length) :
  outN (hashG G) (cycN (hashG G) row st)=outN G (cycN G row st)∧nextN (hashG G) (cycN (hashG G) row st)=nextN G (cycN G row st):=by
 have f1:=hF.first
 have f2:=hF.all
 have hA:=hash_all (first:=firstN G) (by omega) G.ands hF.ands
 have hv:([false]++inRow G.ins.toNat row++st).length=firstN G:=by
  simp only [List.length_append,List.length_cons,List.length_nil,inRow_length,hst]
  unfold firstN;omega
 have h0:([false]++inRow G.ins.toNat row++st)[0]?=some false:=by simp
 have key:∀ l:Int,0≤l→l<2*(n:Int)→litV (cycN (hashG G) row st) (renL (hashK (firstN G) G.ands).2 l)=litV (cycN G row st) l:=fun l h1 h2=>by
  exact (renL_ok hA h1 (by omega)).2 _ hv h0
 constructor
 ·unfold outN
  show List.map _ (G.outs.map _)=_
  rw [List.map_map]
  apply List.map_congr_left
  intro x hx
  have:=hF.outs x hx
  exact key x this.1 this.2
 ·unfold nextN
  show List.map _ (G.lats.map _)=_
  rw [List.map_map]
  apply List.map_congr_left
  intro d hd
  have:=hF.lats d hd
  exact key d.next this.1 this.2
end Go.Proofs.Ytlaljeobdddegaa

namespace Go.Proofs.Ytlaljeobdddegaa
open Go.RowKit
theorem xor_twoH (a b:Nat) (ha:a<9223372036854775808) (hb:b<9223372036854775808):bits BinOp.xor IntKind.i64 (a:Int) (b:Int)=((a ^^^ b:Nat):Int):=by
 show IntKind.i64.wrap ((BitVec.ofInt 64 (a:Int) ^^^ BitVec.ofInt 64 (b:Int)).toNat:Int)=_
 have hx:a ^^^ b<2 ^ 63:=Nat.xor_lt_two_pow (by omega) (by omega)
 rw [BitVec.toNat_xor,ofInt_u64 a (by omega),ofInt_u64 b (by omega),IntKind.wrap_i64]
 omega
theorem nat_xor_mod (a:Nat):(a ^^^ 1) % 2=(a+1) % 2:=by
 have h:(a ^^^ 1).testBit 0=(a.testBit 0 ^^ (1:Nat).testBit 0):=Nat.testBit_xor ..
 simp only [Nat.testBit_zero] at h
 generalize a ^^^ 1=c at *
 by_cases ha:a % 2=1
 ·have:¬ c % 2=1:=by intro e;simp [ha,e] at h
  omega
 ·have:c % 2=1:=by
   by_cases e:c % 2=1
   ·exact e
   ·simp [ha,e] at h
  omega
theorem nat_xor1 (a:Nat):a ^^^ 1=if a % 2=0 then a+1 else a - 1:=by
 have h1:(a ^^^ 1) / 2=a / 2:=by rw [Nat.xor_div_two];simp
 have h2:(a ^^^ 1) % 2=(a+1) % 2:=nat_xor_mod a
 split <;> omega
theorem xor_one (x:Int) (h0:0≤x) (h1:x<9223372036854775808):bits BinOp.xor IntKind.i64 x 1=flipI x:=by
 obtain ⟨a,rfl⟩:=Int.eq_ofNat_of_zero_le h0
 have:=xor_twoH a 1 (by omega) (by omega)
 rw [nat_xor1] at this
 unfold flipI
 rw [show ((1:Int))=((1:Nat):Int) by rfl,this]
 by_cases ha:a % 2=0
 ·rw [if_pos ha,if_pos (by omega)];simp
 ·rw [if_neg ha,if_neg (by omega)];omega
theorem xor_zero (x:Int) (h0:0≤x) (h1:x<9223372036854775808):bits BinOp.xor IntKind.i64 x 0=x:=by
 obtain ⟨a,rfl⟩:=Int.eq_ofNat_of_zero_le h0
 have:=xor_twoH a 0 (by omega) (by omega)
 simpa using this
theorem and_one (n:Int):bits BinOp.and IntKind.i64 n 1=n % 2:=by
 have h1:(BitVec.ofInt 64 1).toNat=2 ^ 1 - 1:=by decide
 have key:(BitVec.ofInt 64 n &&& BitVec.ofInt 64 1).toNat=(n % ((2 ^ 64:Nat):Int)).toNat % 2 ^ 1:=by
  rw [BitVec.toNat_and,BitVec.toNat_ofInt,h1,Nat.and_two_pow_sub_one_eq_mod]
 show IntKind.i64.wrap ((BitVec.ofInt 64 n &&& BitVec.ofInt 64 1).toNat:Nat)=n % 2
 rw [key,IntKind.wrap_i64]
 omega
theorem opposite_any (x:Int) (h0:0≤x) (h1:x<9223372036854775807) (w:World):Calls Try.prog 65 #[.int .i64 x] w fun e w'=>e = .returned (.int .i64 (flipI x))∧w'=w:=by
 go_enter Try.func65,Try.ntmps65
 go_wp2
 refine bodyPost_ret (v:=.int .i64 (flipI x)) (by simp [results,Try.results65,go_sem,xor_one x h0 (by omega), *]) rfl ⟨rfl,rfl⟩
set_option maxHeartbeats 4000000 in
theorem ren_any (w:World) (q:Nat) (lb n v:Nat) (x l:Int) (hbox:w.cell? ⟨q,0,none⟩=some (.slice (some ⟨lb,0,none⟩) n n)) (hn:n<1000000) (h0:0≤l) (hv:(l / 2).toNat=v) (hvn:v<n) (hc:w.cell? ⟨lb,v,none⟩=some (.int .i64 x)) (hx0:0≤x) (hx:x<9223372036854775807):Calls Try.prog 50 #[.int .i64 l,.pointer (some ⟨q,0,none⟩)] w fun e w'=>e = .returned (.int .i64 (if l % 2=1 then flipI x else x))∧w'=w:=by
 have q1:Int.tdiv l 2=(v:Int):=by rw [Int.tdiv_eq_ediv_of_nonneg h0];omega
 have e1:IntKind.i64.wrap (v:Int)=(v:Int):=wrapI _ (by omega) (by omega)
 have hvI:(v:Int)<(n:Int):=by omega
 have q2:=and_one l
 have q3:bits BinOp.xor IntKind.i64 x (l % 2)=(if l % 2=1 then flipI x else x):=by
  split
  ·next h=>rw [h];exact xor_one x hx0 (by omega)
  ·next h=>rw [show l % 2=0 by omega];exact xor_zero x hx0 (by omega)
 generalize (if l % 2=1 then flipI x else x)=r at *
 go_enter Try.func50,Try.ntmps50
 go_wp2
 refine bodyPost_ret (v:=.int .i64 r) (by simp [results,Try.results50,go_sem, *]) rfl ⟨rfl,rfl⟩
end Go.Proofs.Ytlaljeobdddegaa

namespace Go.Proofs.Ytlaljeobdddegaa
open Go.RowKit Go.WideMaps
set_option maxRecDepth 100000
open Go.ChangeMaps (setBlock heap_setBlock_same heap_setBlock_other)
theorem pairU:Try.prog.underlying 46=some (.array 2 3):=by kernel_rfl
theorem intU:Try.prog.underlying 3=some (.int .i64):=by kernel_rfl
theorem knownU:Try.prog.underlying 101=some (.map 46 3):=by kernel_rfl
theorem pairRow:(46:TypeId)<Try.prog.types.size:=of_decide_eq_true (by kernel_rfl)
theorem pairArr:ArrKey Try.prog 46 3 2:=⟨pairU,by kernel_rfl,by kernel_rfl,by kernel_rfl⟩
theorem pairWide:(match Try.prog.underlying 46 with | some (.array _ _) | some (.struct _)=>true | _=>false)=true:=by rw [pairU]
theorem laidAll:laidOutB Try.prog=true:=by kernel_rfl
theorem pairLaw:KeyLaw Try.prog 46:=deep_law_laid laidAll (m:=2) (by omega) pairRow (by kernel_rfl) pairWide
theorem wfI (x:Int) (h:0≤x∧x<9223372036854775808):(Lit.int .i64 x).wf=true:=by
 have e1:IntKind.i64.min = -9223372036854775808:=by decide
 have e2:IntKind.i64.max=9223372036854775807:=by decide
 simp [Lit.wf,e1,e2]
 omega
def keyV (x y:Int):Value:=.agg #[.int .i64 x,.int .i64 y]
theorem pair_key (x y:Int) (hx:0≤x∧x<9223372036854775808) (hy:0≤y∧y<9223372036854775808):∃ s,keyOf Try.prog 46 (keyV x y)=some (.string s) :=
 ⟨_,keyOf_pair pairArr intU ⟨Try.prog.types.size - 1,by have h:=pairRow;exact (Nat.succ_pred_eq_of_pos (Nat.lt_of_le_of_lt (Nat.zero_le _) h)).symm⟩ (wfI x hx) (wfI y hy)⟩
def KnownAt (w:World) (mb first:Nat) (hs:List AndD):Prop :=
 ∃ (es:Array MapEntry) (clock:Nat),w.heap[mb]?=some (.map es clock)∧es.size=hs.length∧∀ (i:Nat) (d:AndD),hs[i]?=some d→∃ born,es[i]?=some ⟨keyV d.x d.y,.int .i64 (2*((first:Int)+(i:Int))),born⟩
theorem keyV_inj {a b c d:Int} (h:keyV a b=keyV c d):a=c∧b=d:=by
 unfold keyV at h
 simpa using h
theorem KnownAt.keys {first:Nat} {hs:List AndD} {es:Array MapEntry} (hr:∀ (i:Nat) (d:AndD),hs[i]?=some d→0≤d.y∧d.y<d.x∧d.x<4000000) (hsz:es.size=hs.length) (h:∀ (i:Nat) (d:AndD),hs[i]?=some d→∃ born,es[i]?=some ⟨keyV d.x d.y,.int .i64 (2*((first:Int)+(i:Int))),born⟩):∀ e ∈ es.toList,∃ l,keyOf Try.prog 46 e.key=some l:=by
 intro e he
 obtain ⟨i,hi⟩:=List.mem_iff_getElem?.1 he
 have hil:=(List.getElem?_eq_some_iff.1 hi).1
 obtain ⟨d,hd⟩:∃ d,hs[i]?=some d:=⟨hs[i]'(by simpa [hsz] using hil),List.getElem?_eq_getElem _⟩
 obtain ⟨born,hb⟩:=h i d hd
 rw [Array.getElem?_toList,hb] at hi
 cases hi
 have:=hr i d hd
 obtain ⟨s,hs⟩:=pair_key d.x d.y (by omega) (by omega)
 exact ⟨_,hs⟩
theorem known_look {w:World} {mb first:Nat} {hs:List AndD} (H:HsOk first hs) (hb:first+hs.length≤2000000) (h:KnownAt w mb first hs) (p q:Int) (hp:0≤p∧p<4000000) (hq:0≤q∧q<4000000) :
  (findG hs p q=none∧(Instr.lookup 101 (.map (some mb)) (keyV p q) true).run Try.prog w = .ok (.tuple #[.int .i64 0,.bool false]) w) ∨
  ∃ i,findG hs p q=some i∧(Instr.lookup 101 (.map (some mb)) (keyV p q) true).run Try.prog w = .ok (.tuple #[.int .i64 (2*((first:Int)+(i:Int))),.bool true]) w:=by
 obtain ⟨es,clock,h1,h2,h3⟩:=h
 have hr:∀ (i:Nat) (d:AndD),hs[i]?=some d→0≤d.y∧d.y<d.x∧d.x<4000000:=fun i d hd=>by
  have:=H.low i d hd
  have:=(List.getElem?_eq_some_iff.1 hd).1
  omega
 obtain ⟨s,hk⟩:=pair_key p q (by omega) (by omega)
 rcases pairLaw.find w hk es.toList (KnownAt.keys hr h2 h3) with ⟨f1,f2⟩ | ⟨j,e0,f1,f2,f3⟩
 ·refine .inl ⟨?_,by simp [Instr.lookup,run_underlying knownU,MapKept.run_getObj_map h1,pairLaw.check w _ hk,f1,Result.andThen]⟩
  cases hf:findG hs p q with
  | none=>rfl
  | some i =>
   obtain ⟨d,hd,rfl,rfl⟩:=findG_some hf
   obtain ⟨born,hbn⟩:=h3 i d hd
   exact absurd rfl (f2 _ (List.mem_of_getElem? (by rw [Array.getElem?_toList];exact hbn)))
 ·have hj:es[j]?=some e0:=by simpa using f2
  have hjl:=(Array.getElem?_eq_some_iff.1 hj).1
  obtain ⟨d,hd⟩:∃ d,hs[j]?=some d:=⟨hs[j]'(by omega),List.getElem?_eq_getElem _⟩
  obtain ⟨born,hbn⟩:=h3 j d hd
  rw [hj] at hbn
  cases hbn
  obtain ⟨rfl,rfl⟩:=keyV_inj f3
  refine .inr ⟨j,?_,by simp [Instr.lookup,run_underlying knownU,MapKept.run_getObj_map h1,pairLaw.check w _ hk,f1,Result.andThen]⟩
  cases hf:findG hs d.x d.y with
  | none=>exact absurd ⟨rfl,rfl⟩ (findG_none hf j d hd)
  | some i =>
   obtain ⟨d',hd',e1,e2⟩:=findG_some hf
   rw [H.one i j d' d hd' hd e1 e2]
theorem known_put {w:World} {mb first:Nat} {hs:List AndD} (H:HsOk first hs) (hb:first+hs.length≤2000000) (h:KnownAt w mb first hs) (p q:Int) (hp:0≤p∧p<4000000) (hq:0≤q∧q<4000000) (hn:findG hs p q=none) :
  ∃ w',(Instr.mapUpdate 101 (.map (some mb)) (keyV p q) (.int .i64 (2*((first:Int)+(hs.length:Int))))).run Try.prog w = .ok () w'∧KnownAt w' mb first (hs++[⟨p,q⟩])∧∃ es' clock',w'=setBlock w mb (.map es' clock'):=by
 obtain ⟨es,clock,h1,h2,h3⟩:=h
 have hr:∀ (i:Nat) (d:AndD),hs[i]?=some d→0≤d.y∧d.y<d.x∧d.x<4000000:=fun i d hd=>by
  have:=H.low i d hd
  have:=(List.getElem?_eq_some_iff.1 hd).1
  omega
 obtain ⟨s,hk⟩:=pair_key p q (by omega) (by omega)
 rcases pairLaw.find w hk es.toList (KnownAt.keys hr h2 h3) with ⟨f1,f2⟩ | ⟨j,e0,f1,f2,f3⟩
 ·refine ⟨setBlock w mb (.map (es.push ⟨keyV p q,.int .i64 (2*((first:Int)+(hs.length:Int))),clock⟩) (clock+1)),by simp [Instr.mapUpdate,run_underlying knownU,MapKept.run_getObj_map h1,pairLaw.check w false hk,f1,MapKept.run_setObj_map _ h1,Result.andThen,setBlock],?_,_,_,rfl⟩
  refine ⟨_,_,heap_setBlock_same h1 _,by simp [h2],fun i d hd=>?_⟩
  by_cases hi:i<hs.length
  ·rw [List.getElem?_append_left hi] at hd
   obtain ⟨born,hbn⟩:=h3 i d hd
   exact ⟨born,by rw [Array.getElem?_push_lt (by omega)];rw [←hbn,Array.getElem?_eq_getElem (by omega)]⟩
  ·rw [List.getElem?_append_right (by omega)] at hd
   have e0:i - hs.length=0:=by
    have:=(List.getElem?_eq_some_iff.1 hd).1
    simp at this
    omega
   rw [e0] at hd
   cases hd
   have e1:i=es.size:=by omega
   subst e1
   exact ⟨clock,by rw [h2];simp [←h2]⟩
 ·have hj:es[j]?=some e0:=by simpa using f2
  have hjl:=(Array.getElem?_eq_some_iff.1 hj).1
  obtain ⟨d,hd⟩:∃ d,hs[j]?=some d:=⟨hs[j]'(by omega),List.getElem?_eq_getElem _⟩
  obtain ⟨born,hbn⟩:=h3 j d hd
  rw [hj] at hbn
  cases hbn
  obtain ⟨rfl,rfl⟩:=keyV_inj f3
  exact absurd ⟨rfl,rfl⟩ (findG_none hn j d hd)
end Go.Proofs.Ytlaljeobdddegaa
