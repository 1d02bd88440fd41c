import Derived.Test.YtlaljeobdddegaaJ54
import Derived.Test.YtlaljeobdddegaaJ04
import Derived.ProofKit
import Derived.SizedLaws
import Derived.Deep.Slices
import Derived.OpenShut
namespace Go.Proofs.Ytlaljeobdddegaa
open Go.RowKit
def ownT (a b:Nat):List TR:=[⟨some ⟨a,0,none⟩,2,[true,true]⟩,⟨some ⟨b,0,none⟩,1,[false]⟩]
set_option maxRecDepth 100000 in
set_option maxHeartbeats 8000000 in
theorem law_maps (B:Nat) (w:World) (S:GrS) (G:GrD) (h:GrAt B w S G) (hB:B≤w.heap.size) (ta:Option Addr) (tc:Nat) (trs:List TR) (ht:TrAt B w ta trs) :
  Calls Try.prog 3 #[.agg (S.cells G),.slice ta trs.length tc] w fun e w'=>e = .returned (.bool true)∧Below w.heap.size w w':=by
 have SM:Hid (∀ w:World,Calls Try.prog 5 #[] w fun e w'=>∃ S,e = .returned (.agg (GrS.cells S tinyG))∧GrAt w'.heap.size w' S tinyG∧Below w.heap.size w w'):=tiny_any
 have RT:Hid (∀ (w:World) S (a:Option Addr) c trs,GrAt w.heap.size w S tinyG→TrAt w.heap.size w a trs→Calls Try.prog 4 #[.agg (GrS.cells S tinyG),.slice a trs.length c] w fun e w'=>e = .returned (.bool true)∧Below w.heap.size w w'):=fun w S a c trs hg ht=>mapped_any w.heap.size w S tinyG hg (Nat.le_refl _) a c trs ht
 have RG:Hid (∀ w',Below w.heap.size w w'→Calls Try.prog 4 #[.agg (S.cells G),.slice ta trs.length tc] w' fun e w''=>e = .returned (.bool true)∧Below w'.heap.size w' w''):=fun w' hw' =>
  mapped_any B w' S G (h.to (hw'.mono hB)) (Nat.le_trans hB hw'.size) ta tc trs (ht.to (hw'.mono hB))
 clear h ht
 generalize hcs:S.cells G=cs at *
 have hcs':cs = #[.int .i64 G.ins,.slice S.a1 G.lats.length S.c1,.slice S.a2 G.ands.length S.c2,.slice S.a3 G.outs.length S.c3]:=hcs.symm
 clear hcs
 subst hcs'
 go_enter Try.func3,Try.ntmps3
 go_wp2_with fail
 generalize hW:World.alloc w _=W
 have HB:Hid (Below w.heap.size w W):=by rw [←hW];exact (Below.refl _ _).alloc (Nat.le_refl _) _
 have hN:w.heap.size<W.heap.size:=by rw [←hW];simp
 have HX:Hid (BoxAt W w.heap.size S G):=by
  rw [←hW]
  exact ⟨by simp,by simp,by simp,by simp,by simp⟩
 clear hW
 go_at_call 5
 refine (SM.out _).mono ?_
 rintro e w1 ⟨S1,rfl,hn1,hb1⟩
 have HB1:=hidden hb1
 have HN1:=hidden hn1
 obtain ⟨s1,t1,s2,t2,s3,t3⟩:=S1
 clear hb1 hn1 SM
 go_wp2_with fail
 generalize hW2:World.alloc _ _=W2
 have hs2:W2.heap.size=w1.heap.size+3:=by rw [←hW2];simp
 have HB2:Hid (Below w1.heap.size w1 W2):=by
  rw [←hW2]
  exact (((Below.refl _ _).alloc (Nat.le_refl _) _).alloc (by simp) _).alloc (by simp;omega) _
 have zb:∀ j,W2.cell? ⟨w1.heap.size+1+1,j,none⟩=(#[.slice (some ⟨w1.heap.size,0,none⟩) 2 2,.slice (some ⟨w1.heap.size+1,0,none⟩) 1 1]:Array Value)[j]?:=by intro j;rw [←hW2];exact cell_new (by simp)
 have z0:∀ j,W2.cell? ⟨w1.heap.size,j,none⟩=(#[.bool true,.bool true]:Array Value)[j]?:=by intro j;rw [←hW2,World.cell?_alloc_lt _ _ _ (by first | (simp;done) | (simp;omega)),World.cell?_alloc_lt _ _ _ (by first | (simp;done) | (simp;omega))];exact cell_new (by simp)
 have z1:∀ j,W2.cell? ⟨w1.heap.size+1,j,none⟩=(#[.bool false]:Array Value)[j]?:=by intro j;rw [←hW2,World.cell?_alloc_lt _ _ _ (by first | (simp;done) | (simp;omega))];exact cell_new (by simp)
 have HT2:Hid (TrAt W2.heap.size W2 (some ⟨w1.heap.size+1+1,0,none⟩) (ownT w1.heap.size (w1.heap.size+1))):=by
  have f:∀ (b:Nat) (cs:Array Value) (els:List (List Value)),(∀ j,W2.cell? ⟨b,j,none⟩=cs[j]?)→els.flatten=cs.toList→∀ (m:Nat) (v:Value),els.flatten[m]?=some v→W2.cell? ⟨b,m,none⟩=some v:=by
   intro b cs els h1 h2 m v hv
   rw [h1 m,←Array.getElem?_toList,←h2];exact hv
  refine ⟨rowAt_flat (by omega) (by simp [ownT,TR.cells]) (f _ _ _ zb rfl),?_,by simp [ownT]⟩
  intro t htm
  simp only [ownT,List.mem_cons,List.not_mem_nil,or_false] at htm
  rcases htm with rfl | rfl
  ·exact rowAt_flat (by omega) (by simp [bC]) (f _ _ _ z0 rfl)
  ·exact rowAt_flat (by omega) (by simp [bC]) (f _ _ _ z1 rfl)
 have HG2:Hid (GrAt W2.heap.size W2 ⟨s1,t1,s2,t2,s3,t3⟩ tinyG):=(HN1.out.to HB2.out).mono HB2.out.size
 have HR2:=hidden (RT.out W2 ⟨s1,t1,s2,t2,s3,t3⟩ _ 2 _ HG2.out HT2.out)
 have HBW2:Hid (Below W.heap.size W W2):=HB1.out.trans (HB2.out.mono HB1.out.size)
 clear hW2 zb z0 z1 RT HN1 HT2 HG2 hs2
 go_at_call 4
 refine HR2.out.mono ?_
 rintro e w3 ⟨rfl,hb3⟩
 have HB3:=hidden (HBW2.out.trans (hb3.mono HBW2.out.size))
 have HX3:Hid (BoxAt w3 w.heap.size S G):=HX.out.to hN HB3.out
 have q0:=HX3.out.c0
 have q1:=HX3.out.c1
 have q2:=HX3.out.c2
 have q3:=HX3.out.c3
 clear hb3 HR2 HX3
 go_wp2_with fail
 go_at_call 4
 refine (RG.out _ (HB.out.trans (HB3.out.mono HB.out.size))).mono ?_
 rintro e w4 ⟨rfl,hb4⟩
 have HB4:=hidden (HB3.out.trans (hb4.mono HB3.out.size))
 clear hb4 q0 q1 q2 q3
 go_wp2_with fail
 go_ret
 exact ⟨rfl,HB.out.trans (HB4.out.mono HB.out.size)⟩
end Go.Proofs.Ytlaljeobdddegaa

namespace Go.Proofs.Ytlaljeobdddegaa
open Go.ChangeShapes Go.WideShapes Go.ChangeAt Go.RowKit
section
variable {H:Type} {enc:TypeId × Value→H} {w:World} {base:Nat} {spare:Nat→Bool} {held:Bool} {fuel:Nat}
def Fine (t:TypeId) (d:DataW H):Prop:=∀ n,n ∈ DataW.weights Try.prog t d→n≤reachBytes
theorem fine_part {t:TypeId} {fs:Array Field} {parts:List (DataW H)} (ht:Try.prog.underlying t=some (.struct fs)) (h:Fine t (.agg parts)) {i:Nat} {f:Field} {d:DataW H} (hf:fs[i]?=some f) (hd:parts[i]?=some d):Fine f.type d:=fun n hn=>by
 refine h n ?_
 rw [DataW.weights.eq_def]
 simp only [ht]
 exact DataW.weights_mem_each (j:=i) (by rw [List.getElem?_map,Array.getElem?_toList,hf];rfl) hd n hn
theorem mem_all {e:TypeId} {l:List (DataW H)} {i:Nat} {d:DataW H} (hd:l[i]?=some d):∀ n,n ∈ DataW.weights Try.prog e d→n ∈ DataW.weightsAll Try.prog e l:=by
 induction l generalizing i with
 | nil=>simp at hd
 | cons a r ih =>
  intro n hn
  rw [DataW.weightsAll.eq_def]
  simp only [List.mem_append]
  cases i with
  | zero=>simp at hd;subst hd;exact .inl hn
  | succ i=>exact .inr (ih (by simpa using hd) n hn)
theorem fine_slice {t e:TypeId} {elems sp:List (DataW H)} (ht:Try.prog.underlying t=some (.slice e)) (h:Fine t (.slice elems sp)):(elems.length+sp.length)*Try.prog.bytesOf e≤reachBytes∧∀ (i:Nat) (d:DataW H),elems[i]?=some d→Fine e d:=by
 have e1:DataW.weights Try.prog t (.slice elems sp)=(elems.length+sp.length)*Try.prog.bytesOf e :: (DataW.weightsAll Try.prog e elems++DataW.weightsAll Try.prog e sp):=by
  rw [DataW.weights.eq_def];simp only [ht]
 unfold Fine at h
 rw [e1] at h
 exact ⟨h _ List.mem_cons_self,fun i d hd n hn=>h n (List.mem_cons_of_mem _ (List.mem_append.2 (.inl (mem_all hd n hn))))⟩
theorem listOf {α:Type} {Q:Nat→α→Prop} (n:Nat) (h:∀ i,i<n→∃ x,Q i x):∃ l:List α,l.length=n∧∀ (i:Nat) (x:α),l[i]?=some x→Q i x:=by
 induction n with
 | zero=>exact ⟨[],rfl,fun i x hx=>by simp at hx⟩
 | succ n ih =>
  obtain ⟨l,hl,hq⟩:=ih (fun i hi=>h i (by omega))
  obtain ⟨x,hx⟩:=h n (by omega)
  refine ⟨l++[x],by simp [hl],fun i y hy=>?_⟩
  rcases Nat.lt_or_ge i n with hi | hi
  ·rw [List.getElem?_append_left (by omega)] at hy;exact hq i y hy
  ·rw [List.getElem?_append_right (by omega)] at hy
   have:i - l.length=0:=by
    have:=(List.getElem?_eq_some_iff.1 hy).1
    simp at this;omega
   rw [this] at hy
   simp at hy
   subst hy
   have:i=n:=by omega
   rw [this];exact hx
theorem spot_none {b o:Nat} {sp:Option Nat} {v:Value} (h:w.cell? ⟨b,o,sp⟩=some v):sp=none:=by
 cases sp with
 | none=>rfl
 | some x =>
  unfold World.cell? at h
  split at h <;> simp at h
theorem add_none (b o n:Nat):(⟨b,o,none⟩:Addr).add n=⟨b,o+n,none⟩:=by
 unfold Addr.add;split
 ·simp
 ·rfl
theorem open_row {α:Type} (f:α→List Value) (Q:DataW H→α→Prop) {t e:TypeId} {sz:Nat} {v:Value} {y:DataW H × List MemPlace} (ht:Try.prog.underlying t=some (.slice e)) (hc:Try.prog.cellsOf e=sz) (hs:0<sz)
  (hel:∀ (fuel:Nat) (cs:List Value) (y:DataW H × List MemPlace),DataW.trod enc Try.prog w base spare held fuel e cs=some y→∃ x:α,cs=f x∧Q y.1 x) (h:DataW.trod enc Try.prog w base spare held fuel t [v]=some y) :
  ∃ a c,∃ l:List α,v = .slice a l.length c∧RowAt w.heap.size w a sz (l.map f)∧((y.1 = .nil∧l=[])∨∃ elems sp,y.1 = .slice elems sp∧elems.length=l.length∧∀ (i:Nat) (x:α),l[i]?=some x→∃ d,elems[i]?=some d∧Q d x):=by
 rcases Deep.open_slice ht h with ⟨hv,hy⟩ | ⟨a,len,cap,m,n,D,Pl,hv,hb,hlc,hcm,hm,hy,hall⟩
 ·simp only [List.cons.injEq,and_true] at hv
  subst hv;subst hy
  exact ⟨none,0,[],rfl,rowAt_nil,.inl ⟨rfl,rfl⟩⟩
 ·simp only [List.cons.injEq,and_true] at hv
  subst hv;subst hy
  have hlm:len≤m:=by rw [hm];split <;> omega
  obtain ⟨l,hl,hq⟩:=listOf (Q:=fun i (x:α)=>(∀ (j:Nat) (c:Value),(f x)[j]?=some c→w.cell? ((a.add (i*sz)).add j)=some c)∧(f x).length=sz∧Q (D i) x) len (fun i hi=>by
   obtain ⟨cs',h1,h2⟩:=hall i (by omega)
   rw [hc] at h1
   obtain ⟨x,hx,hQ⟩:=hel n cs' _ h2
   subst hx
   obtain ⟨-,hlen,hcell⟩:=World.cells?_some h1
   exact ⟨x,fun j c hj=>(hcell j (by rw [←hlen];exact (List.getElem?_eq_some_iff.1 hj).1)).trans hj,hlen,hQ⟩)
  refine ⟨some a,cap,l,by rw [hl],?_,.inr ⟨_,_,rfl,by simp [hl],fun i x hx=>?_⟩⟩
  ·intro hne
   obtain ⟨x0,hx0⟩:∃ x,l[0]?=some x:=by
    cases l with
    | nil=>simp at hne
    | cons a r=>exact ⟨a,rfl⟩
   obtain ⟨hc0,hl0,-⟩:=hq 0 x0 hx0
   obtain ⟨v0,hv0⟩:∃ v,(f x0)[0]?=some v:=⟨(f x0)[0]'(by omega),List.getElem?_eq_getElem (by omega)⟩
   have hcell:=hc0 0 v0 hv0
   rw [show (a.add (0*sz)).add 0=a by simp [Addr.add]] at hcell
   have hbl:=World.block_lt_of_cell? w _ hcell
   obtain ⟨ab,ao,asp⟩:=a
   have hsp:=spot_none hcell
   subst hsp
   refine ⟨ab,ao,rfl,hbl,fun i cs hi j x hx=>?_⟩
   rw [List.getElem?_map] at hi
   cases hli:l[i]? with
   | none=>rw [hli] at hi;simp at hi
   | some y =>
    rw [hli] at hi
    simp at hi
    subst hi
    have:=(hq i y hli).1 j x hx
    rw [add_none,add_none] at this
    exact this
  ·have hi:i<len:=by rw [←hl];exact (List.getElem?_eq_some_iff.1 hx).1
   exact ⟨D i,by simp [hi],(hq i x hx).2.2⟩
end
end Go.Proofs.Ytlaljeobdddegaa

namespace Go.Proofs.Ytlaljeobdddegaa
open Go.ChangeShapes Go.WideShapes Go.ChangeAt Go.RowKit
set_option maxRecDepth 100000
section
variable {H:Type} {enc:TypeId × Value→H} {w:World} {base:Nat} {spare:Nat→Bool} {held:Bool} {fuel:Nat}
theorem cI:Try.prog.cellsOf 3=1:=by kernel_rfl
theorem cB:Try.prog.cellsOf 4=1:=by kernel_rfl
theorem cL:Try.prog.cellsOf 45=2:=by kernel_rfl
theorem cA:Try.prog.cellsOf 46=2:=by kernel_rfl
theorem bI:Try.prog.bytesOf 3=8:=by kernel_rfl
theorem bL:Try.prog.bytesOf 45=16:=by kernel_rfl
theorem bA:Try.prog.bytesOf 46=16:=by kernel_rfl
theorem int_el {cs:List Value} {y:DataW H × List MemPlace} (h:DataW.trod enc Try.prog w base spare held fuel 3 cs=some y):∃ x:Int,cs=intC x∧True:=by
 obtain ⟨n,hc,-,-⟩:=DataW.trod_int Try.underlying3 h
 exact ⟨n,hc,trivial⟩
theorem lat_el {cs:List Value} {y:DataW H × List MemPlace} (h:DataW.trod enc Try.prog w base spare held fuel 45 cs=some y):∃ x:LatD,cs=x.cells∧True:=by
 obtain ⟨ys,m,rfl,hx,hlen,hyl,hel⟩:=DataW.trod_struct Try.underlying45 h
 rw [cL] at hlen
 match cs,hlen,ys,hyl,hx,hel with
 | [k0,k1],_,[y0,y1],_,_,hel =>
  have e0:=hel 0 _ rfl
  obtain ⟨n0,d0,-,wf0⟩:=DataW.trod_int Try.underlying3 (show DataW.trod _ Try.prog _ _ _ _ _ 3 _=some y0 from e0)
  simp [cI] at d0
  have e1:=hel 1 _ rfl
  obtain ⟨n1,d1,-⟩:=DataW.trod_bool Try.underlying4 (show DataW.trod _ Try.prog _ _ _ _ _ 4 _=some y1 from e1)
  simp [cB] at d1
  exact ⟨⟨n0,n1⟩,by simp [LatD.cells, *],trivial⟩
theorem and_el {cs:List Value} {y:DataW H × List MemPlace} (h:DataW.trod enc Try.prog w base spare held fuel 46 cs=some y):∃ x:AndD,cs=x.cells∧True:=by
 obtain ⟨ys,m,rfl,hx,hlen,hyl,hel⟩:=DataW.trod_array Try.underlying46 h
 rw [cA] at hlen
 match cs,hlen,ys,hyl,hx,hel with
 | [k0,k1],_,[y0,y1],_,_,hel =>
  have e0:=hel 0 (by decide)
  obtain ⟨n0,d0,-,wf0⟩:=DataW.trod_int Try.underlying3 (show DataW.trod _ Try.prog _ _ _ _ _ 3 _=some y0 from e0)
  simp [cI] at d0
  have e1:=hel 1 (by decide)
  obtain ⟨n1,d1,-,wf1⟩:=DataW.trod_int Try.underlying3 (show DataW.trod _ Try.prog _ _ _ _ _ 3 _=some y1 from e1)
  simp [cI] at d1
  exact ⟨⟨n0,n1⟩,by simp [AndD.cells, *],trivial⟩
theorem len_of {α:Type} {Q:DataW H→α→Prop} {t e:TypeId} {d:DataW H} {l:List α} (ht:Try.prog.underlying t=some (.slice e)) (hb:8≤Try.prog.bytesOf e) (hf:Fine t d) (h:(d = .nil∧l=[])∨∃ elems sp,d = .slice elems sp∧elems.length=l.length∧∀ (i:Nat) (x:α),l[i]?=some x→∃ d,elems[i]?=some d∧Q d x) :
  l.length<big:=by
 rcases h with ⟨rfl,rfl⟩ | ⟨elems,sp,rfl,hl,hq⟩
 ·simp [big]
 ·have hh:=fine_slice ht hf
  have h1:=hh.1
  have h2:l.length*8≤(elems.length+sp.length)*Try.prog.bytesOf e:=by
   rw [←hl]
   exact Nat.mul_le_mul (by omega) hb
  simp only [reachBytes] at h1
  simp only [big]
  omega
theorem open_graph {y:DataW H × List MemPlace} {cs:List Value} (h:DataW.trod enc Try.prog w base spare held fuel 26 cs=some y) (hf:Fine 26 y.1):∃ S G,cs=(GrS.cells S G).toList∧GrAt w.heap.size w S G:=by
 obtain ⟨ys,m,rfl,hx,hlen,hyl,hel⟩:=DataW.trod_struct Try.underlying26 h
 rw [show Try.prog.cellsOf 26=4 by kernel_rfl] at hlen
 match cs,hlen,ys,hyl,hx,hel with
 | [k0,k1,k2,k3],_,[y0,y1,y2,y3],_,hx,hel =>
  rw [hx] at hf
  have e0:=hel 0 _ rfl
  obtain ⟨n0,d0,-,wf0⟩:=DataW.trod_int Try.underlying3 (show DataW.trod _ Try.prog _ _ _ _ _ 3 _=some y0 from e0)
  simp [cI] at d0
  subst d0
  have e1:=hel 1 _ rfl
  have e1':DataW.trod enc Try.prog w base spare held m 22 [k1]=some y1:=by
   have hc:Try.prog.cellsOf 22=1:=by kernel_rfl
   simpa [hc] using e1
  obtain ⟨a1,u1,l1,rfl,hr1,hd1⟩:=open_row LatD.cells (fun _ _=>True) Try.underlying22 cL (by decide) (fun fuel cs y h=>lat_el h) e1'
  have g1:=len_of Try.underlying22 (by rw [bL];decide) (fine_part Try.underlying26 hf (i:=1) rfl rfl) hd1
  have e2:=hel 2 _ rfl
  have e2':DataW.trod enc Try.prog w base spare held m 23 [k2]=some y2:=by
   have hc:Try.prog.cellsOf 23=1:=by kernel_rfl
   simpa [hc] using e2
  obtain ⟨a2,u2,l2,rfl,hr2,hd2⟩:=open_row AndD.cells (fun _ _=>True) Try.underlying23 cA (by decide) (fun fuel cs y h=>and_el h) e2'
  have g2:=len_of Try.underlying23 (by rw [bA];decide) (fine_part Try.underlying26 hf (i:=2) rfl rfl) hd2
  have e3:=hel 3 _ rfl
  have e3':DataW.trod enc Try.prog w base spare held m 24 [k3]=some y3:=by
   have hc:Try.prog.cellsOf 24=1:=by kernel_rfl
   simpa [hc] using e3
  obtain ⟨a3,u3,l3,rfl,hr3,hd3⟩:=open_row intC (fun _ _=>True) Try.underlying24 cI (by decide) (fun fuel cs y h=>int_el h) e3'
  have g3:=len_of Try.underlying24 (by rw [bI];decide) (fine_part Try.underlying26 hf (i:=3) rfl rfl) hd3
  exact ⟨⟨a1,u1,a2,u2,a3,u3⟩,⟨n0,l1,l2,l3⟩,rfl,hr1,hr2,hr3,g1,g2,g3⟩
end
theorem Try.own:ownKnob Try.prog.godebug=none:=by kernel_rfl
theorem Try.laidOut:laidOutB Try.prog=true:=by kernel_rfl
theorem graph_of {H:Type} {enc:TypeId × Value→H} {W:World} {base:Nat} {v:Value} {d:DataW H} {p:List MemPlace} (hv:Value.okWide Try.prog W .any base 26 v) (h:DataW.Trod enc Try.prog W 0 (fun _=>true) true 26 v d p) (hf:Fine 26 d) :
  ∃ S G,v = .agg (GrS.cells S G)∧GrAt W.heap.size W S G:=by
 obtain ⟨cs,rfl,_⟩:=okWide_struct Try.underlying26 hv
 obtain ⟨fuel,ht⟩:=h
 obtain ⟨S,G,hc,hn⟩:=open_graph ht hf
 refine ⟨S,G,?_,hn⟩
 have:cs.toList=(GrS.cells S G).toList:=by simpa [Value.cells] using hc
 rw [Array.toList_inj.1 this]
end Go.Proofs.Ytlaljeobdddegaa

namespace Go.Proofs.Ytlaljeobdddegaa
open Go.ChangeShapes Go.WideShapes Go.ChangeAt Go.RowKit
section
variable {H:Type} {enc:TypeId × Value→H} {w:World} {base:Nat} {spare:Nat→Bool} {held:Bool} {fuel:Nat}
theorem cSB:Try.prog.cellsOf 30=1:=by kernel_rfl
theorem bSB:Try.prog.bytesOf 30=24:=by kernel_rfl
theorem bool_el {cs:List Value} {y:DataW H × List MemPlace} (h:DataW.trod enc Try.prog w base spare held fuel 4 cs=some y):∃ x:Bool,cs=bC x∧True:=by
 obtain ⟨n,hc,-⟩:=DataW.trod_bool Try.underlying4 h
 exact ⟨n,hc,trivial⟩
theorem tr_el {cs:List Value} {y:DataW H × List MemPlace} (h:DataW.trod enc Try.prog w base spare held fuel 30 cs=some y):∃ x:TR,cs=x.cells∧RowAt w.heap.size w x.a 1 (x.l.map bC):=by
 obtain ⟨v,rfl⟩:∃ v,cs=[v]:=by
  rcases DataW.trod_slice Try.underlying30 h with ⟨rfl,_⟩ | ⟨a,len,cap,elems,rest,n,_,rfl,_⟩
  ·exact ⟨_,rfl⟩
  ·exact ⟨_,rfl⟩
 obtain ⟨a,c,l,rfl,hr,-⟩:=open_row bC (fun _ _=>True) Try.underlying30 cB (by decide) (fun fuel cs y h=>bool_el h) h
 exact ⟨⟨a,c,l⟩,rfl,hr⟩
theorem open_trace {y:DataW H × List MemPlace} {v:Value} (h:DataW.trod enc Try.prog w base spare held fuel 27 [v]=some y) (hf:Fine 27 y.1):∃ a c trs,v = .slice a (List.length trs) c∧TrAt w.heap.size w a trs:=by
 obtain ⟨a,c,l,rfl,hr,hd⟩:=open_row TR.cells (fun _ x=>RowAt w.heap.size w x.a 1 (x.l.map bC)) Try.underlying27 cSB (by decide) (fun fuel cs y h=>tr_el h) h
 refine ⟨a,c,l,rfl,hr,?_,?_⟩
 ·rcases hd with ⟨_,rfl⟩ | ⟨elems,sp,_,_,hq⟩
  ·intro t ht;cases ht
  ·intro t ht
   obtain ⟨i,hi,rfl⟩:=List.getElem_of_mem ht
   obtain ⟨d,_,hQ⟩:=hq i _ (List.getElem?_eq_getElem hi)
   exact hQ
 ·rcases hd with ⟨_,rfl⟩ | ⟨elems,sp,he,hl,_⟩
  ·simp
  ·rw [he] at hf
   have h1:=(fine_slice Try.underlying27 hf).1
   rw [bSB] at h1
   simp only [reachBytes] at h1
   omega
end
theorem trace_of {H:Type} {enc:TypeId × Value→H} {W:World} {v:Value} {d:DataW H} {p:List MemPlace} (h:DataW.Trod enc Try.prog W 0 (fun _=>true) true 27 v d p) (hf:Fine 27 d) (hv:v.cells.toList=[v]) :
  ∃ a c trs,v = .slice a (List.length trs) c∧TrAt W.heap.size W a trs:=by
 obtain ⟨fuel,ht⟩:=h
 rw [hv] at ht
 exact open_trace ht hf
set_option maxRecDepth 100000 in
theorem maps_lifted (os:Os) (started:os.Started) (H:Type) (enc:TypeId × Value→H) :
  ReturnsInHanded {} Try.checked os 3 .any (Rows.lutMapsSpec.pre6 enc Try.prog Try.f3 Rows.lutMapsRow.domain false) (Rows.lutMapsSpec.post enc Try.prog Try.f3 false true false false):=by
 refine returnsInHanded_of_change_sized (C:=Try.checked) Try.own started (by kernel_rfl) Try.func3
  (ChangeSpec.witness6 (enc:=enc) (C:=Try.checked) false ⟨#[],#[.agg #[.int .i64 0,.slice none 0 0,.slice none 0 0,.slice none 0 0],.slice none 0 0],[]⟩ 8 (by kernel_rfl) (by kernel_rfl) (by kernel_rfl) (by kernel_rfl)) ?_
 intro W base args ds gs before hval0 hW _ hsz0 _
 have hsz:(DataW.weightsEach Try.prog (Try.f3.params.toList++Rows.lutMapsSpec.plain.varTypes Try.prog) (ds++gs)).all (·≤reachBytes)=true:=hsz0
 clear hsz0
 have hval:∀ (j:Nat) t v,Try.f3.params[j]?=some t→args[j]?=some v→Value.okWide Try.prog W .any base t v:=hval0
 have hW':=hW
 obtain ⟨p,q,hA0,hV,rfl,_,_⟩:=hW
 have hA:DataW.TrodAll enc Try.prog W 0 (fun _=>true) true Try.f3.params.toList args.toList ds p:=hA0
 rw [Try.params3] at hA hval hsz
 obtain ⟨v0,v1,d0,d1,p0,p1,rfl,rfl,rfl,h0,h1⟩:=trodAll_two hA
 obtain ⟨rfl,rfl⟩:=trodVars_none hV
 have hf0:Fine 26 d0:=fun n hn=>by
  have:=List.all_eq_true.1 hsz n (DataW.weights_mem_each (j:=0) (t:=26) (d:=d0) rfl rfl n hn)
  simpa using this
 have hf1:Fine 27 d1:=fun n hn=>by
  have:=List.all_eq_true.1 hsz n (DataW.weights_mem_each (j:=1) (t:=27) (d:=d1) rfl rfl n hn)
  simpa using this
 obtain ⟨S,G,rfl,hn⟩:=graph_of (hval 0 26 v0 rfl rfl) h0 hf0
 have hv1:v1.cells.toList=[v1]:=by
  obtain ⟨a,ln,cp,rfl⟩:=okWide_slice Try.underlying27 (hval 1 27 v1 rfl rfl)
  rfl
 obtain ⟨ta,tc,trs,rfl,ht⟩:=trace_of h1 hf1 hv1
 clear hA0 hval0
 simp only [List.append_nil] at hW'
 have hlt:∀ x ∈ p0++p1,x.block<W.heap.size:=fun x hx=>by simpa using hW'.lt x hx
 refine (law_maps W.heap.size W S G hn (Nat.le_refl _) ta tc trs ht).mono ?_
 rintro e W' ⟨rfl,bel⟩
 have e1:Rows.lutMapsSpec.fn H ([d0,d1]++[]) = { results:=[.lit (.bool true)],args:=[d0,d1] }:=rfl
 refine ⟨_,rfl,_,_,_,[],p0++p1,[],hW',?_,?_,?_,bel.frame _,fun h=>by cases h⟩
 ·rw [e1];exact trodAll_mk1 (shut_bool Try.underlying4 _)
 ·rw [e1];exact trodAll_mk2 (Below.trod Try.laidOut (by kernel_rfl) (of_decide_eq_true (by kernel_rfl)) h0 bel (fun x hx=>hlt x (List.mem_append.2 (.inl hx)))) (Below.trod Try.laidOut (by kernel_rfl) (of_decide_eq_true (by kernel_rfl)) h1 bel (fun x hx=>hlt x (List.mem_append.2 (.inr hx))))
 ·rw [e1];rfl
theorem lutMaps_holds:Rows.LutMapsSaid :=
 OpenClaim.holds_of_wide 3 Try.f3 rfl rfl rfl rfl rfl rfl rfl ⟨rfl,rfl,rfl,rfl,rfl⟩ rfl rfl rfl rfl rfl (by kernel_rfl) Try.func3 (by kernel_rfl)
  (of_decide_eq_true (by kernel_rfl)) (by unfold Func.isWrapper;first | (rw [if_pos (by decide +kernel)];kernel_rfl) | (rw [if_neg (by decide +kernel)];exact ⟨rfl,rfl⟩))
  (fun os started H enc _=>maps_lifted os started H enc)
end Go.Proofs.Ytlaljeobdddegaa
