import Derived.Test.YtlaljeobdddegaaJ12
import Derived.Test.YtlaljeobdddegaaJ04
import Derived.Deep.Cut
import Derived.Laws.OwnMore
import Derived.Deep.RegionHeld3
import Derived.Test.YtlaljeobdddegaaJ06
import Derived.Deep.CutBlock
namespace Go.Proofs.Ytlaljeobdddegaa
open Go.RowKit
set_option maxRecDepth 100000 in
set_option maxHeartbeats 8000000 in
theorem hash_any (B:Nat) (w:World) (S:GrS) (G:GrD) (h:GrAt B w S G) (hB:B≤w.heap.size) (hok:GrOk G=true) :
  Calls Try.prog 19 #[.agg (S.cells G)] w fun e w'=>(∃ T,e = .returned (.agg (T.cells (hashG G)))∧GrAt w'.heap.size w' T (hashG G))∧Below w.heap.size w w':=by
 obtain ⟨ni,n,hF⟩:=fine_of hok
 have VL:Hid (∀ w',Below w.heap.size w w'→Calls Try.prog 17 #[.agg (S.cells G)] w' fun e w''=>e = .returned (.bool true)∧Below w'.heap.size w' w''):=fun w' hw'=>by
  have:=valid_any B w' S G (h.to (hw'.mono hB)) (Nat.le_trans hB hw'.size)
  rw [hok] at this
  exact this
 have HF:=hidden hF
 have HAT:=hidden h
 clear h hF hok
 unfold GrS.cells at VL ⊢
 go_enter Try.func19,Try.ntmps19
 go_upto_region 1 with fail
 generalize hW0:World.alloc (World.alloc w _) _=w0
 have HB0:Hid (Below w.heap.size w w0):=by rw [←hW0];exact ((Below.refl _ _).alloc (Nat.le_refl _) _).alloc (by simp) _
 have HSZ0:Hid (w0.heap.size=w.heap.size+2):=by show _=_;rw [←hW0];simp
 have HQ:Hid (∀ j,w0.cell? ⟨w.heap.size,j,none⟩=(#[.int .i64 G.ins,.slice S.a1 G.lats.length S.c1,.slice S.a2 G.ands.length S.c2,.slice S.a3 G.outs.length S.c3]:Array Value)[j]?):=by
  rw [←hW0];intro j
  rw [World.cell?_alloc_lt _ _ _ (by simp)];exact cell_new rfl
 have HQR:Hid (∀ j,w0.cell? ⟨w.heap.size+1,j,none⟩=(#[.int .i64 0,.slice none 0 0,.slice none 0 0,.slice none 0 0]:Array Value)[j]?):=by
  rw [←hW0];intro j
  exact cell_new (by simp)
 have HRF:Hid (∀ j,w0.frozen? ⟨w.heap.size+1,j,none⟩=false):=by
  rw [←hW0];intro j;exact World.frozen?_alloc_at _ _ _ _ (by simp)
 have p0:=HQ.out 0
 have p1:=HQ.out 1
 have p2:=HQ.out 2
 have p3:=HQ.out 3
 simp at p0 p1 p2 p3
 clear hW0
 go_wp2_with fail
 go_at_call 17
 refine (VL.out _ HB0.out).mono ?_
 rintro e w1 ⟨rfl,hb1⟩
 have HB1:=hidden hb1
 have hs1:=hb1.size
 have HSZ1:Hid (w.heap.size+2≤w1.heap.size):=by have:=HSZ0.out;show _≤_;omega
 have HBX:Hid (BoxAt w1 w.heap.size S G):=by
  have e:∀ j,w1.cell? ⟨w.heap.size,j,none⟩=w0.cell? ⟨w.heap.size,j,none⟩:=fun j=>HB1.out.cell (p:=⟨w.heap.size,j,none⟩) (by show w.heap.size<_;have:=HSZ0.out;omega)
  exact ⟨by have:=HSZ1.out;omega,(e 0).trans p0,(e 1).trans p1,(e 2).trans p2,(e 3).trans p3⟩
 have HBw1:Hid (Below w.heap.size w w1):=HB0.out.trans (HB1.out.mono HB0.out.size)
 have CL:Hid (Calls Try.prog 33 #[.pointer (some ⟨w.heap.size,0,none⟩)] w1 fun e w'=>(∃ T,e = .returned (.agg (T.cells (hashG G)))∧GrAt w'.heap.size w' T (hashG G)∧NewAt w1.heap.size T)∧Below w1.heap.size w1 w'):=hashed_any B w1 w.heap.size S G ni n HF.out HBX.out (HAT.out.to (HBw1.out.mono hB)) (Nat.le_trans hB HBw1.out.size)
 have HR1:Hid (∀ j,w1.cell? ⟨w.heap.size+1,j,none⟩=(#[.int .i64 0,.slice none 0 0,.slice none 0 0,.slice none 0 0]:Array Value)[j]?):=fun j=>(HB1.out.cell (p:=⟨w.heap.size+1,j,none⟩) (by show w.heap.size+1<_;have:=HSZ0.out;omega)).trans (HQR.out j)
 have HF1:Hid (∀ j,w1.frozen? ⟨w.heap.size+1,j,none⟩=false):=fun j=>(HB1.out.frozen (p:=⟨w.heap.size+1,j,none⟩) (by show w.heap.size+1<_;have:=HSZ0.out;omega)).trans (HRF.out j)
 obtain ⟨rs,hrs⟩:∃ x,x=w.heap.size+1:=⟨_,rfl⟩
 rw [←hrs] at HR1 HF1
 have hrl:rs<w1.heap.size:=by have:=HSZ1.out;omega
 have hrw:w.heap.size≤rs:=by omega
 clear hb1 HB1 HSZ0 HQ HQR HRF p0 p1 p2 p3 HBX HSZ1 hs1 VL HB0
 go_wp2_with fail
 go_at_call 33
 refine CL.out.mono ?_
 rintro e w8 ⟨⟨T,rfl,hat8,hnw⟩,hb8⟩
 rw [←hrs]
 clear hrs
 have HAT8:=hidden hat8
 have HNW:=hidden hnw
 have HB8:=hidden hb8
 have hs8:=hb8.size
 have r0:=(hb8.cell (p:=⟨rs,0,none⟩) hrl).trans (HR1.out 0)
 have r1:=(hb8.cell (p:=⟨rs,1,none⟩) hrl).trans (HR1.out 1)
 have r2:=(hb8.cell (p:=⟨rs,2,none⟩) hrl).trans (HR1.out 2)
 have r3:=(hb8.cell (p:=⟨rs,3,none⟩) hrl).trans (HR1.out 3)
 have f0:=(hb8.frozen (p:=⟨rs,0,none⟩) hrl).trans (HF1.out 0)
 have f1:=(hb8.frozen (p:=⟨rs,1,none⟩) hrl).trans (HF1.out 1)
 have f2:=(hb8.frozen (p:=⟨rs,2,none⟩) hrl).trans (HF1.out 2)
 have f3:=(hb8.frozen (p:=⟨rs,3,none⟩) hrl).trans (HF1.out 3)
 simp at r0 r1 r2 r3
 clear hat8 hnw hb8
 unfold GrS.cells
 generalize hGC:hashG G=H at *
 have HHC:=hidden hGC
 clear hGC
 go_wp2
 obtain ⟨z0,z1,z2,z3⟩:=set4 r0 r1 r2 r3 (.int .i64 H.ins) (.slice T.a1 H.lats.length T.c1) (.slice T.a2 H.ands.length T.c2) (.slice T.a3 H.outs.length T.c3)
 have HG9:=hidden (set4H w8 rs (.int .i64 H.ins) (.slice T.a1 H.lats.length T.c1) (.slice T.a2 H.ands.length T.c2) (.slice T.a3 H.outs.length T.c3))
 generalize World.setCell _ (⟨rs,3,none⟩:Addr) _=w9 at HG9 z0 z1 z2 z3 ⊢
 clear r0 r1 r2 r3 f0 f1 f2 f3
 refine bodyPost_ret (v:=.agg #[.int .i64 H.ins,.slice T.a1 H.lats.length T.c1,.slice T.a2 H.ands.length T.c2,.slice T.a3 H.outs.length T.c3]) (by simp [results,Try.results19,go_sem, *]) rfl ?_
 refine ⟨⟨T,?_,?_⟩,?_⟩
 ·rw [HHC.out];try rfl
 ·rw [HHC.out];exact HAT8.out.set HNW.out hrl HG9.out
 ·exact (HBw1.out.trans (HB8.out.mono HBw1.out.size)).trans (below_grown HG9.out (by have:=HBw1.out.size;omega) (fun k hk=>by have:=Option.some.inj hk;omega))
end Go.Proofs.Ytlaljeobdddegaa

namespace Go.Proofs.Ytlaljeobdddegaa
open Go.RowKit
abbrev Ops:=List (Nat × Nat)
def Shut (first:Nat) (ops:Ops) (T:Nat→Prop):Prop:=∀ (i a b:Nat),ops[i]?=some (a,b)→T (first+i)→T a∧T b
def Nd (first:Nat) (ops:Ops) (roots:List Nat) (v:Nat):Prop:=∀ T:Nat→Prop,(∀ r,r ∈ roots→T r)→Shut first ops T→T v
def Ahead (first:Nat) (ops:Ops):Prop:=∀ (i a b:Nat),ops[i]?=some (a,b)→a<first+i∧b<first+i
def On (nd:List Bool) (v:Nat):Prop:=nd[v]?=some true
theorem nd_root {first:Nat} {ops:Ops} {roots:List Nat} {r:Nat} (h:r ∈ roots):Nd first ops roots r:=fun _ hr _=>hr r h
theorem nd_op {first:Nat} {ops:Ops} {roots:List Nat} {i a b:Nat} (ho:ops[i]?=some (a,b)) (h:Nd first ops roots (first+i)):Nd first ops roots a∧Nd first ops roots b :=
 ⟨fun T hr hs=>(hs i a b ho (h T hr hs)).1,fun T hr hs=>(hs i a b ho (h T hr hs)).2⟩
theorem on_set {nd:List Bool} {v x:Nat} (h:On nd v):On (nd.set x true) v:=by
 unfold On at *
 rw [List.getElem?_set]
 split
 ·next e =>
  subst e
  have:=(List.getElem?_eq_some_iff.1 h).1
  simp [this]
 ·exact h
theorem on_new {nd:List Bool} {x:Nat} (h:x<nd.length):On (nd.set x true) x:=by
 unfold On;simp [h]
theorem on_of {nd:List Bool} {v x:Nat} (h:On (nd.set x true) v):v=x∨On nd v:=by
 unfold On at *
 rw [List.getElem?_set] at h
 split at h
 ·next e=>exact .inl e.symm
 ·exact .inr h
def stepC (first:Nat) (ops:Ops) (k:Nat) (nd:List Bool):List Bool :=
 if nd[first+k]?=some true then
  match ops[k]? with
  | some (a,b)=>(nd.set a true).set b true
  | none=>nd
 else nd
def sweepC (first:Nat) (ops:Ops):Nat→List Bool→List Bool
 | 0,nd=>nd
 | k+1,nd=>sweepC first ops k (stepC first ops k nd)
theorem stepC_len (first:Nat) (ops:Ops) (k:Nat) (nd:List Bool):(stepC first ops k nd).length=nd.length:=by
 unfold stepC
 split
 ·split <;> simp
 ·rfl
theorem sweepC_len (first:Nat) (ops:Ops) (k:Nat) (nd:List Bool):(sweepC first ops k nd).length=nd.length:=by
 induction k generalizing nd with
 | zero=>rfl
 | succ k ih=>unfold sweepC;rw [ih,stepC_len]
theorem stepC_on {first:Nat} {ops:Ops} {k:Nat} {nd:List Bool} {v:Nat} (h:On nd v):On (stepC first ops k nd) v:=by
 unfold stepC
 split
 ·split
  ·exact on_set (on_set h)
  ·exact h
 ·exact h
theorem sweepC_on {first:Nat} {ops:Ops} {k:Nat} {nd:List Bool} {v:Nat} (h:On nd v):On (sweepC first ops k nd) v:=by
 induction k generalizing nd with
 | zero=>exact h
 | succ k ih=>unfold sweepC;exact ih (stepC_on h)
theorem stepC_far {first:Nat} {ops:Ops} (ha:Ahead first ops) {k:Nat} {nd:List Bool} {v:Nat} (hv:first+k≤v) (h:On (stepC first ops k nd) v):On nd v:=by
 unfold stepC at h
 split at h
 ·split at h
  ·next a b e =>
   have:=ha k a b e
   rcases on_of h with rfl | h
   ·omega
   ·rcases on_of h with rfl | h
    ·omega
    ·exact h
  ·exact h
 ·exact h
theorem sweepC_far {first:Nat} {ops:Ops} (ha:Ahead first ops) {k:Nat} {nd:List Bool} {v:Nat} (hv:first+k≤v) (h:On (sweepC first ops k nd) v):On nd v:=by
 induction k generalizing nd with
 | zero=>exact h
 | succ k ih=>unfold sweepC at h;exact stepC_far ha (by omega) (ih (by omega) h)
theorem sweepC_shut {first:Nat} {ops:Ops} (ha:Ahead first ops) {k:Nat} {nd:List Bool} (hl:∀ (i a b:Nat),ops[i]?=some (a,b)→a<nd.length∧b<nd.length) :
  ∀ (i a b:Nat),i<k→ops[i]?=some (a,b)→On (sweepC first ops k nd) (first+i)→On (sweepC first ops k nd) a∧On (sweepC first ops k nd) b:=by
 induction k generalizing nd with
 | zero=>intro i a b hi;omega
 | succ k ih =>
  intro i a b hi ho h
  unfold sweepC at h ⊢
  by_cases hk:i=k
  ·subst hk
   have h1:=stepC_far ha (Nat.le_refl _) (sweepC_far ha (Nat.le_refl _) h)
   have h2:stepC first ops i nd=(nd.set a true).set b true:=by
    unfold stepC
    rw [if_pos (show nd[first+i]?=some true from h1),ho]
   have hab:=hl i a b ho
   rw [h2]
   exact ⟨sweepC_on (on_set (on_new hab.1)),sweepC_on (on_new (by simpa using hab.2))⟩
  ·exact ih (fun i a b ho=>by rw [stepC_len];exact hl i a b ho) i a b (by omega) ho h
theorem sweepC_sound {first:Nat} {ops:Ops} {roots:List Nat} {k:Nat} {nd:List Bool} (h:∀ v,On nd v→Nd first ops roots v):∀ v,On (sweepC first ops k nd) v→Nd first ops roots v:=by
 induction k generalizing nd with
 | zero=>exact h
 | succ k ih =>
  unfold sweepC
  refine ih fun v hv=>?_
  unfold stepC at hv
  split at hv
  ·next hk =>
   split at hv
   ·next a b e =>
    have hab:=nd_op e (h _ hk)
    rcases on_of hv with rfl | hv
    ·exact hab.2
    ·rcases on_of hv with rfl | hv
     ·exact hab.1
     ·exact h v hv
   ·exact h v hv
  ·exact h v hv
theorem sweepC_all {first:Nat} {ops:Ops} {roots:List Nat} (ha:Ahead first ops) {nd:List Bool} (hl:∀ (i a b:Nat),ops[i]?=some (a,b)→a<nd.length∧b<nd.length) (h0:∀ v,On nd v↔v ∈ roots) (v:Nat) :
  On (sweepC first ops ops.length nd) v↔Nd first ops roots v:=by
 constructor
 ·exact sweepC_sound (fun v hv=>nd_root ((h0 v).1 hv)) v
 ·intro h
  refine h _ (fun r hr=>sweepC_on ((h0 r).2 hr)) ?_
  intro i a b ho hi
  exact sweepC_shut ha hl i a b (List.getElem?_eq_some_iff.1 ho).1 ho hi
structure Wait (first ins:Nat) (ops:Ops) (nexts roots:List Nat) (pd:List Nat) (nd:List Bool) (wt:List Nat):Prop where
 sound:∀ v,On nd v→v<first∨Nd first ops (nexts++roots) v
 gate:∀ (i a b:Nat),ops[i]?=some (a,b)→On nd (first+i)→first+i ∈ pd∨first+i ∈ wt∨(On nd a∧On nd b)
 latch:∀ (i n:Nat),nexts[i]?=some n→1+ins+i ∈ pd∨1+ins+i ∈ wt∨On nd n
 wts:∀ v,v ∈ wt→ins<v∧v<nd.length∧On nd v
 ins:∀ v,v≤ins→On nd v
theorem Wait.done {first ins:Nat} {ops:Ops} {nexts roots:List Nat} {nd:List Bool} (h:Wait first ins ops nexts roots [] nd []) (hr:∀ r,r ∈ roots→On nd r) (v:Nat) (hv:first≤v):On nd v↔Nd first ops (nexts++roots) v:=by
 constructor
 ·intro h1
  rcases h.sound v h1 with h2 | h2
  ·omega
  ·exact h2
 ·intro h1
  refine h1 (On nd) (fun r hm=>?_) (fun i a b ho hi=>?_)
  ·rcases List.mem_append.1 hm with hm | hm
   ·obtain ⟨i,hi,rfl⟩:=List.getElem_of_mem hm
    rcases h.latch i _ (List.getElem?_eq_getElem hi) with h2 | h2 | h2
    ·cases h2
    ·cases h2
    ·exact h2
   ·exact hr r hm
  ·rcases h.gate i a b ho hi with h2 | h2 | h2
   ·cases h2
   ·cases h2
   ·exact h2
def needC (v:Nat) (s:List Bool × List Nat):List Bool × List Nat:=if s.1[v]?=some true then s else (s.1.set v true,s.2++[v])
theorem needC_on {v:Nat} {s:List Bool × List Nat} (h:v<s.1.length):On (needC v s).1 v:=by
 unfold needC
 split
 ·next e=>exact e
 ·exact on_new h
theorem needC_keep {v x:Nat} {s:List Bool × List Nat} (h:On s.1 x):On (needC v s).1 x:=by
 unfold needC
 split
 ·exact h
 ·exact on_set h
theorem needC_len (v:Nat) (s:List Bool × List Nat):(needC v s).1.length=s.1.length:=by
 unfold needC
 split <;> simp
theorem Wait.need {first ins:Nat} {ops:Ops} {nexts roots pd:List Nat} {s:List Bool × List Nat} (h:Wait first ins ops nexts roots pd s.1 s.2) (v:Nat) (hv:v<s.1.length) (hs:v<first∨Nd first ops (nexts++roots) v):Wait first ins ops nexts roots pd (needC v s).1 (needC v s).2:=by
 unfold needC
 split
 ·exact h
 ·next hn =>
  refine ⟨fun x hx=>?_,fun i a b ho hx=>?_,fun i n hi=>?_,fun x hx=>?_,fun x hx=>on_set (h.ins x hx)⟩
  ·rcases on_of hx with rfl | hx
   ·exact hs
   ·exact h.sound x hx
  ·rcases on_of hx with e | hx
   ·exact .inr (.inl (by rw [e];simp))
   ·rcases h.gate i a b ho hx with h1 | h1 | h1
    ·exact .inl h1
    ·exact .inr (.inl (List.mem_append.2 (.inl h1)))
    ·exact .inr (.inr ⟨on_set h1.1,on_set h1.2⟩)
  ·rcases h.latch i n hi with h1 | h1 | h1
   ·exact .inl h1
   ·exact .inr (.inl (List.mem_append.2 (.inl h1)))
   ·exact .inr (.inr (on_set h1))
  ·rw [List.length_set]
   rcases List.mem_append.1 hx with hx | hx
   ·have:=h.wts x hx
    exact ⟨this.1,this.2.1,on_set this.2.2⟩
   ·rw [List.mem_singleton.1 hx]
    refine ⟨?_,hv,on_new hv⟩
    rcases Nat.lt_or_ge ins v with h1 | h1
    ·exact h1
    ·exact absurd (h.ins v h1) hn
theorem Wait.pop {first ins:Nat} {ops:Ops} {nexts roots:List Nat} {nd:List Bool} {wt:List Nat} {v:Nat} (h:Wait first ins ops nexts roots [] nd (wt++[v])):Wait first ins ops nexts roots [v] nd wt:=by
 have f:∀ x,x ∈ wt++[v]→x ∈ [v]∨x ∈ wt:=fun x hx=>(List.mem_append.1 hx).symm
 refine ⟨h.sound,fun i a b ho hx=>?_,fun i n hi=>?_,fun x hx=>h.wts x (List.mem_append.2 (.inl hx)),h.ins⟩
 ·rcases h.gate i a b ho hx with h1 | h1 | h1
  ·cases h1
  ·rcases f _ h1 with h2 | h2
   ·exact .inl h2
   ·exact .inr (.inl h2)
  ·exact .inr (.inr h1)
 ·rcases h.latch i n hi with h1 | h1 | h1
  ·cases h1
  ·rcases f _ h1 with h2 | h2
   ·exact .inl h2
   ·exact .inr (.inl h2)
  ·exact .inr (.inr h1)
theorem Wait.looked {first ins:Nat} {ops:Ops} {nexts roots:List Nat} {nd:List Bool} {wt:List Nat} {v:Nat} (h:Wait first ins ops nexts roots [v] nd wt) (hg:∀ (i a b:Nat),ops[i]?=some (a,b)→first+i=v→On nd a∧On nd b) (hl:∀ (i n:Nat),nexts[i]?=some n→1+ins+i=v→On nd n):Wait first ins ops nexts roots [] nd wt:=by
 refine ⟨h.sound,fun i a b ho hx=>?_,fun i n hi=>?_,h.wts,h.ins⟩
 ·rcases h.gate i a b ho hx with h1 | h1
  ·exact .inr (.inr (hg i a b ho (List.mem_singleton.1 h1)))
  ·exact .inr h1
 ·rcases h.latch i n hi with h1 | h1
  ·exact .inr (.inr (hl i n hi (List.mem_singleton.1 h1)))
  ·exact .inr h1
def leftC (s:List Bool × List Nat):Nat:=2*s.1.count false+s.2.length
theorem count_set {nd:List Bool} {v:Nat} (hv:v<nd.length) (hn:¬ nd[v]?=some true):(nd.set v true).count false+1=nd.count false:=by
 induction nd generalizing v with
 | nil=>simp at hv
 | cons x t ih =>
  cases v with
  | zero =>
   cases x
   ·simp
   ·simp at hn
  | succ v =>
   have:=ih (v:=v) (by simpa using hv) (by simpa using hn)
   simp only [List.set_cons_succ,List.count_cons]
   omega
theorem needC_left {v:Nat} {s:List Bool × List Nat} (hv:v<s.1.length):leftC (needC v s)≤leftC s:=by
 unfold needC
 split
 ·exact Nat.le_refl _
 ·next hn =>
  have:=count_set hv hn
  unfold leftC
  simp only [List.length_append,List.length_singleton]
  omega
def begunC (ins k n:Nat):List Bool × List Nat:=(List.replicate (1+ins+k) true++List.replicate n false,(List.range k).map fun i=>1+ins+i)
theorem begunC_next (ins k n:Nat):needC (1+ins+k) (begunC ins k (n+1))=begunC ins (k+1) n:=by
 have h:((begunC ins k (n+1)).1)[1+ins+k]?=some false:=by
  unfold begunC
  rw [List.getElem?_append_right (by simp)]
  simp
 unfold needC
 rw [if_neg (by rw [h];simp)]
 unfold begunC
 refine Prod.ext ?_ ?_
 ·show (List.replicate (1+ins+k) true++List.replicate (n+1) false).set (1+ins+k) true=_
  rw [List.set_append_right _ _ (by simp)]
  simp only [List.length_replicate,Nat.sub_self,List.replicate_succ,List.set_cons_zero]
  rw [show 1+ins+(k+1)=(1+ins+k)+1 by omega,List.replicate_succ']
  simp
 ·show _=(List.range (k+1)).map _
  rw [List.range_succ,List.map_append];rfl
theorem begunC_wait (ins nl n:Nat) (ops:Ops) (nexts roots:List Nat) (hn:nexts.length=nl):Wait (1+ins+nl) ins ops nexts roots [] (begunC ins nl n).1 (begunC ins nl n).2:=by
 have hon:∀ v,On (begunC ins nl n).1 v↔v<1+ins+nl:=by
  intro v
  unfold On begunC
  rcases Nat.lt_or_ge v (1+ins+nl) with h | h
  ·rw [List.getElem?_append_left (by simpa using h),List.getElem?_replicate,if_pos h];simp [h]
  ·rw [List.getElem?_append_right (by simpa using h),List.getElem?_replicate]
   split <;> simp <;> omega
 refine ⟨fun v hv=>.inl ((hon v).1 hv),fun i a b _ hv=>?_,fun i x hi=>?_,fun v hv=>?_,fun v hv=>(hon v).2 (by omega)⟩
 ·have:=(hon _).1 hv;omega
 ·have hi':=(List.getElem?_eq_some_iff.1 hi).1
  exact .inr (.inl (List.mem_map.2 ⟨i,List.mem_range.2 (by omega),rfl⟩))
 ·obtain ⟨i,hi,rfl⟩:=List.mem_map.1 hv
  have:=List.mem_range.1 hi
  refine ⟨by omega,?_,(hon _).2 (by omega)⟩
  unfold begunC
  simp;omega
end Go.Proofs.Ytlaljeobdddegaa

namespace Go.Proofs.Ytlaljeobdddegaa
open Go.RowKit
def toV (first:Nat) (nk:List Bool) (v:Nat):Nat:=if v<first then v else first+(nk.take (v - first)).count true
def litC (first:Nat) (nk:List Bool) (l:Int):Int:=2*(toV first nk (l.toNat / 2):Nat)+l % 2
def keptA (first:Nat) (nk:List Bool) (ands:List AndD):List AndD:=(ands.zip nk).filterMap fun x=>if x.2 then some ⟨litC first nk x.1.x,litC first nk x.1.y⟩ else none
def cleanG (first:Nat) (nk:List Bool) (G:GrD):GrD:=⟨G.ins,G.lats.map fun l=>⟨litC first nk l.next,l.init⟩,keptA first nk G.ands,G.outs.map (litC first nk)⟩
theorem keptP_len (f:AndD × Bool→AndD) (l:List (AndD × Bool)):(l.filterMap fun x=>if x.2 then some (f x) else none).length=(l.map Prod.snd).count true:=by
 induction l with
 | nil=>rfl
 | cons x t ih =>
  obtain ⟨d,b⟩:=x
  cases b
  ·simpa using ih
  ·simpa using ih
def keptK (first:Nat) (nk:List Bool) (ands:List AndD) (k:Nat):List AndD:=((ands.zip nk).take k).filterMap fun x=>if x.2 then some ⟨litC first nk x.1.x,litC first nk x.1.y⟩ else none
theorem keptK_len (first:Nat) (nk:List Bool) (ands:List AndD) (k:Nat) (hl:nk.length=ands.length):(keptK first nk ands k).length=(nk.take k).count true:=by
 unfold keptK
 rw [keptP_len (fun x=>⟨litC first nk x.1.x,litC first nk x.1.y⟩)]
 congr 1
 rw [List.map_take]
 congr 1
 rw [List.map_snd_zip]
 omega
theorem keptK_all (first:Nat) (nk:List Bool) (ands:List AndD) (hl:nk.length=ands.length):keptK first nk ands ands.length=keptA first nk ands:=by
 unfold keptK keptA
 rw [List.take_of_length_le (by simp;omega)]
theorem keptK_next (first:Nat) (nk:List Bool) (ands:List AndD) (k:Nat) (d:AndD) (b:Bool) (hd:ands[k]?=some d) (hb:nk[k]?=some b):keptK first nk ands (k+1)=keptK first nk ands k++(if b then [⟨litC first nk d.x,litC first nk d.y⟩] else []):=by
 unfold keptK
 have hz:(ands.zip nk)[k]?=some (d,b):=by rw [List.getElem?_zip_eq_some];exact ⟨hd,hb⟩
 rw [take_snoc hz,List.filterMap_append]
 cases b <;> rfl
theorem toV_low {first:Nat} {nk:List Bool} {v:Nat} (h:v<first):toV first nk v=v:=by unfold toV;rw [if_pos h]
theorem toV_gate (first:Nat) (nk:List Bool) (k:Nat):toV first nk (first+k)=first+(nk.take k).count true:=by
 unfold toV;rw [if_neg (by omega)];congr 2;rw [show first+k - first=k by omega]
theorem rank_eq (first:Nat) (nk:List Bool) (v:Nat):((List.replicate first true++nk).take v).count true=toV first nk v:=by
 rw [List.take_append,List.count_append]
 simp only [List.length_replicate]
 unfold toV
 rcases Nat.lt_or_ge v first with h | h
 ·rw [if_pos h,show v - first=0 by omega]
  simp [List.take_replicate,Nat.min_eq_left (Nat.le_of_lt h)]
 ·rw [if_neg (by omega)]
  simp [List.take_replicate,Nat.min_eq_right h]
def opsOf (G:GrD):Ops:=G.ands.map fun d=>(d.x.toNat / 2,d.y.toNat / 2)
theorem same_nk {first:Nat} {ops:Ops} {roots:List Nat} {nd nd':List Bool} (hl:nd.length=nd'.length) (h:∀ v,first≤v→(On nd v↔Nd first ops roots v)) (h':∀ v,first≤v→(On nd' v↔Nd first ops roots v)):nd.drop first=nd'.drop first:=by
 apply List.ext_getElem?
 intro i
 rw [List.getElem?_drop,List.getElem?_drop]
 have e:=(h (first+i) (by omega)).trans (h' (first+i) (by omega)).symm
 unfold On at e
 rcases Nat.lt_or_ge (first+i) nd.length with hi | hi
 ·rw [List.getElem?_eq_getElem hi,List.getElem?_eq_getElem (by omega)] at e ⊢
  simp only [Option.some.injEq] at e ⊢
  cases h1:nd[first+i] <;> cases h2:nd'[first+i] <;> simp_all
 ·rw [List.getElem?_eq_none hi,List.getElem?_eq_none (by omega)]
theorem low_on {first:Nat} {nd:List Bool} (hl:first≤nd.length) (h:∀ v,v<first→On nd v):nd=List.replicate first true++nd.drop first:=by
 have:nd.take first=List.replicate first true:=by
  apply List.ext_getElem?
  intro i
  rcases Nat.lt_or_ge i first with hi | hi
  ·rw [List.getElem?_take_of_lt hi,List.getElem?_replicate,if_pos hi];exact h i hi
  ·rw [List.getElem?_eq_none (by simp;omega),List.getElem?_eq_none (by simp;omega)]
 rw [←this,List.take_append_drop]
end Go.Proofs.Ytlaljeobdddegaa

namespace Go.Proofs.Ytlaljeobdddegaa
open Go.RowKit
def marks (nd:List Bool) (vs:List Nat):List Bool:=vs.foldl (fun l v=>l.set v true) nd
theorem marks_len (nd:List Bool) (vs:List Nat):(marks nd vs).length=nd.length:=by
 induction vs generalizing nd with
 | nil=>rfl
 | cons v t ih=>show (marks (nd.set v true) t).length=_;rw [ih,List.length_set]
theorem marks_on {nd:List Bool} {vs:List Nat} (h:∀ v,v ∈ vs→v<nd.length) (x:Nat):On (marks nd vs) x↔x ∈ vs∨On nd x:=by
 induction vs generalizing nd with
 | nil=>simp [marks]
 | cons v t ih =>
  have h1:=ih (nd:=nd.set v true) (fun y hy=>by rw [List.length_set];exact h y (List.mem_cons_of_mem _ hy))
  show On (marks (nd.set v true) t) x↔_
  rw [h1]
  constructor
  ·rintro (h2 | h2)
   ·exact .inl (List.mem_cons_of_mem _ h2)
   ·rcases on_of h2 with rfl | h2
    ·exact .inl List.mem_cons_self
    ·exact .inr h2
  ·rintro (h2 | h2)
   ·rcases List.mem_cons.1 h2 with rfl | h2
    ·exact .inr (on_new (h x List.mem_cons_self))
    ·exact .inl h2
   ·exact .inr (on_set h2)
def vOf (l:Int):Nat:=l.toNat / 2
def nOf (l:LatD):Nat:=l.next.toNat / 2
end Go.Proofs.Ytlaljeobdddegaa

namespace Go.Proofs.Ytlaljeobdddegaa
open Go.RowKit
def iV (x:Nat):Value:=.int .i64 (x:Int)
end Go.Proofs.Ytlaljeobdddegaa

namespace Go.Proofs.Ytlaljeobdddegaa
open Go.RowKit
def intV (x:Int):Value:=.int .i64 x
theorem grown_set (w:World) (b j:Nat) (v:Value):w.grownBy (w.setCell ⟨b,j,none⟩ v) (some b):=by
 refine ⟨rfl,rfl,rfl,by simp [World.setCell],fun k hk hne=>?_⟩
 have hkb:k≠b:=fun e=>hne (by rw [e])
 simp [World.setCell,Array.getElem?_modify,Ne.symm hkb]
theorem grown_thru {a b c d:World} {x:Nat} {row:Option Nat} (h1:a.grownBy b (some x)) (h2:b.grownBy c row) (h3:c.grownBy d (some x)) (hr:∀ y,row=some y→a.heap.size≤y):a.grownBy d (some x) :=
 ⟨h3.os.trans (h2.os.trans h1.os),h3.tape.trans (h2.tape.trans h1.tape),h3.output.trans (h2.output.trans h1.output),Nat.le_trans h1.size (Nat.le_trans h2.size h3.size),fun k hk hne=>by
  have s1:=h1.size
  have s2:=h2.size
  rw [h3.block k (by omega) hne,h2.block k (by omega) (fun e=>by have:=hr k e.symm;omega),h1.block k hk hne]⟩
theorem grown_ad (w:World) (o:Obj) (row:Option Nat):w.grownBy (w.alloc o).drew row:=⟨rfl,rfl,rfl,by simp,fun k hk _=>heap_alloc_old w o hk⟩
end Go.Proofs.Ytlaljeobdddegaa

namespace Go.Proofs.Ytlaljeobdddegaa
open Go.RowKit
def latC (first:Nat) (nk:List Bool) (l:LatD):List Value:=[.int .i64 (litC first nk l.next),.bool l.init]
end Go.Proofs.Ytlaljeobdddegaa

namespace Go.Proofs.Ytlaljeobdddegaa
open Go.RowKit
theorem own_form {w:World} {C e sz n:Nat} {v:Value} {xs:List Value} (h:w.ownsRow C e sz v n xs):∃ a c,v = .slice a n c:=by
 rcases h.2 with ⟨h0,h1⟩ | ⟨g,cap,cur,hv,_⟩
 ·exact ⟨none,0,by rw [h0,h1]⟩
 ·exact ⟨_,cap,hv⟩
theorem grown_al (w:World) (o:Obj) (row:Option Nat):w.grownBy (w.alloc o) row:=⟨rfl,rfl,rfl,by simp,fun k hk _=>heap_alloc_old w o hk⟩
end Go.Proofs.Ytlaljeobdddegaa

namespace Go.Proofs.Ytlaljeobdddegaa
open Go.RowKit
def nd0C (G:GrD):List Bool:=marks (marks (List.replicate (firstN G+G.ands.length) false) (G.outs.map vOf)) (G.lats.map nOf)
def needR (G:GrD):List Bool:=sweepC (firstN G) (opsOf G) G.ands.length (nd0C G)
def nkOf (G:GrD):List Bool:=(needR G).drop (firstN G)
def cleanOf (G:GrD):GrD:=cleanG (firstN G) (nkOf G) G
theorem nd0C_len (G:GrD):(nd0C G).length=firstN G+G.ands.length:=by unfold nd0C;rw [marks_len,marks_len,List.length_replicate]
theorem needR_len (G:GrD):(needR G).length=firstN G+G.ands.length:=by unfold needR;rw [sweepC_len,nd0C_len]
theorem nkOf_len (G:GrD):(nkOf G).length=G.ands.length:=by unfold nkOf;rw [List.length_drop,needR_len];omega
end Go.Proofs.Ytlaljeobdddegaa

namespace Go.Proofs.Ytlaljeobdddegaa
open Go.RowKit
structure SiAt (C:Nat) (w:World) (sb gb g n:Nat) (s:List Bool × List Nat) (wv:Value):Prop where
 c0:w.cell? ⟨sb,0,none⟩=some (.pointer (some ⟨gb,0,none⟩))
 c1:w.cell? ⟨sb,1,none⟩=some (.slice (some ⟨g,0,none⟩) n n)
 c2:w.cell? ⟨sb,2,none⟩=some wv
 nd:w.ownsRow C 4 1 (.slice (some ⟨g,0,none⟩) n n) n (s.1.map bV)
 wt:w.ownsRow C 3 1 wv s.2.length (s.2.map iV)
 fr:∀ j,w.frozen? ⟨sb,j,none⟩=false
 ge:C≤sb
 lt:sb<w.heap.size
 ne:sb≠g
 nw:wv.ownBlock≠some sb
 ng:wv.ownBlock≠some g
theorem SiAt.len {C:Nat} {w:World} {sb gb g n:Nat} {s:List Bool × List Nat} {wv:Value} (h:SiAt C w sb gb g n s wv):s.1.length=n:=by have:=h.nd.1;simpa using this
theorem SiAt.to {C:Nat} {w w':World} {sb gb g n:Nat} {s:List Bool × List Nat} {wv:Value} (h:SiAt C w sb gb g n s wv) (hb:Below w.heap.size w w'):SiAt C w' sb gb g n s wv :=
 ⟨(hb.cell (p:=⟨sb,0,none⟩) h.lt).trans h.c0,(hb.cell (p:=⟨sb,1,none⟩) h.lt).trans h.c1,(hb.cell (p:=⟨sb,2,none⟩) h.lt).trans h.c2,own_below h.nd hb,own_below h.wt hb,fun j=>(hb.frozen (p:=⟨sb,j,none⟩) h.lt).trans (h.fr j),h.ge,Nat.lt_of_lt_of_le h.lt hb.size,h.ne,h.nw,h.ng⟩
set_option maxRecDepth 100000 in
set_option maxHeartbeats 8000000 in
theorem needC_any (C:Nat) (w:World) (sb gb g n:Nat) (s:List Bool × List Nat) (wv:Value) (h:SiAt C w sb gb g n s wv) (hC:C≤w.heap.size) (hn:n≤60000) (l:Int) (v:Nat) (h0:0≤l) (hv:l.toNat / 2=v) (hvn:v<n) (hwl:s.2.length≤60000) :
  Calls Try.prog 46 #[.pointer (some ⟨sb,0,none⟩),.int .i64 l] w fun e w'=>(∃ v,e = .returned v)∧(∃ wv',SiAt C w' sb gb g n (needC v s) wv')∧Below C w w':=by
 have hnl:s.1.length=n:=h.len
 obtain ⟨nd,wt⟩:=s
 simp only at hnl hwl
 have q1:Int.tdiv l 2=(v:Int):=by rw [Int.tdiv_eq_ediv_of_nonneg h0];omega
 have e1:IntKind.i64.wrap (v:Int)=(v:Int):=wrapI _ (by omega) (by omega)
 have hvI:(v:Int)<(n:Int):=by omega
 obtain ⟨b,hb⟩:∃ b,nd[v]?=some b:=getElem_lt (by omega)
 have cB:w.cell? ⟨g,v,none⟩=some (.bool b):=by
  rw [h.nd.cellAt v (by omega),List.getElem?_map,hb];rfl
 have c1:=h.c1
 have HSI:=hidden h
 have hHB:=hidden hb
 clear h hv hb
 go_enter Try.func46,Try.ntmps46
 cases b
 ·obtain ⟨i3,hi3,hz3,hs3,hb3⟩:=info_int
  have HI2:=hidden hi3
  have HZ2:=hidden hz3
  have HS2:=hidden hs3
  have HBY2:=hidden hb3
  clear hi3 hz3 hs3 hb3
  have HST:=hidden (HSI.out.nd.stored v (.bool true))
  have hfz:=HSI.out.nd.frozenAt v
  go_upto_region 3 with fail
  generalize hW5:World.setCell w _ _=w5
  rw [hW5] at HST
  have HN5:Hid (w5.ownsRow C 4 1 (.slice (some ⟨g,0,none⟩) n n) n ((nd.set v true).map bV)):=by
   have:=HST.out.1
   rw [show Value.bool true=bV true from rfl,←List.map_set] at this
   exact this
  have hg5:w.grownBy w5 (some g):=HST.out.2
  have HW5:Hid (w5.ownsRow C 3 1 wv wt.length (wt.map iV)):=HSI.out.wt.kept hg5 (.inr HSI.out.ng)
  have HF5:Hid (∀ j,w5.frozen? ⟨sb,j,none⟩=false):=fun j=>(hg5.frozen_far ⟨sb,j,none⟩ HSI.out.lt (by simpa using HSI.out.ne)).trans (HSI.out.fr j)
  have HC5:Hid (∀ j,w5.cell? ⟨sb,j,none⟩=w.cell? ⟨sb,j,none⟩):=fun j=>hg5.cell_far ⟨sb,j,none⟩ HSI.out.lt (by simpa using HSI.out.ne)
  have d2:w5.cell? ⟨sb,2,none⟩=some wv:=(HC5.out 2).trans HSI.out.c2
  have HG5:=hidden hg5
  have hs5:=hg5.size
  have hlt:=HSI.out.lt
  have hgC:=(HSI.out.nd.lt g rfl).1
  clear hW5 HST hfz hg5 cB c1
  have hm1:wt.length+1≤maxLen:=by simp only [maxLen];omega
  have hm2:(wt.length+1)*8≤140737488355328:=by omega
  have hm3:C≤(w5.alloc (.cells #[.int .i64 (v:Int)] 3)).heap.size:=by simp;omega
  have KC:Hid (∀ w',(w5.alloc (.cells #[.int .i64 (v:Int)] 3)).grownBy w' wv.ownBlock→w'.cell? ⟨sb,2,none⟩=some wv∧w'.frozen? ⟨sb,2,none⟩=false):=fun w' hg=>by
   have hg':w5.grownBy w' wv.ownBlock:=grown_trans (grown_al _ _ _) hg
   exact ⟨(hg'.cell_far ⟨sb,2,none⟩ (by show sb<_;omega) (fun e=>HSI.out.nw e.symm)).trans d2,(hg'.frozen_far ⟨sb,2,none⟩ (by show sb<_;omega) (fun e=>HSI.out.nw e.symm)).trans (HF5.out 2)⟩
  have tok:True:=trivial
  go_wp2_with (have _t:=tok;at_builtin;(refine wpList_append_lies _ rfl (.tmp 25) (.tmp 27) 24 rfl C 3 i3 _ 1 8 Try.underlying24 HI2.out HZ2.out HS2.out HBY2.out rfl (by decide) wv wt.length _ rfl (HW5.out.alloc _) ⟨w5.heap.size,0,none⟩ 1 1 [.int .i64 (v:Int)] rfl rfl (World.news_of_block (heap_new _ _)) (by simp [Value.oneCell']) (by decide) hm1 hm2 hm3 _ rfl ?_;intro g1 cap w6 hown hgrow hat6 hlt6;clear tok;have hcc:=(KC.out w6 hgrow).1;have hff:=(KC.out w6 hgrow).2))
  generalize hW7:World.setCell w6 _ _=w7
  have hg56:w5.grownBy w6 wv.ownBlock:=grown_trans (grown_al _ _ _) hgrow
  have hg67:w6.grownBy w7 (some sb):=by rw [←hW7];exact grown_set _ _ _ _
  have hgs:g1≠sb∧g1≠g:=by
   have hgl:g<w5.heap.size:=Nat.lt_of_lt_of_le (HSI.out.nd.lt g rfl).2 hs5
   rcases hat6 with h | h
   ·exact ⟨fun e=>HSI.out.nw (by rw [h,e]),fun e=>HSI.out.ng (by rw [h,e])⟩
   ·simp at h;omega
  have hs6:=hg56.size
  have hlt5:sb<w5.heap.size:=by omega
  have hcell:∀ j,w6.cell? ⟨sb,j,none⟩=w.cell? ⟨sb,j,none⟩:=fun j=>(hg56.cell_far ⟨sb,j,none⟩ hlt5 (fun e=>HSI.out.nw e.symm)).trans (HC5.out j)
  have hfr6:∀ j,w6.frozen? ⟨sb,j,none⟩=false:=fun j=>(hg56.frozen_far ⟨sb,j,none⟩ hlt5 (fun e=>HSI.out.nw e.symm)).trans (HF5.out j)
  have hne:needC v (nd,wt)=(nd.set v true,wt++[v]):=by
   unfold needC
   rw [if_neg]
   simp only
   rw [hHB.out];simp
  have hB7:Below C w w7:=((below_grown HG5.out hC (fun k hk=>by have:=Option.some.inj hk;omega)).trans (below_grown hg56 (by omega) (fun k hk=>(HSI.out.wt.lt k hk).1))).trans (below_grown hg67 (by omega) (fun k hk=>by have:=Option.some.inj hk;have:=HSI.out.ge;omega))
  have hot:∀ j,j≠2→w7.cell? ⟨sb,j,none⟩=w.cell? ⟨sb,j,none⟩:=fun j hj=>by
   rw [←hW7]
   exact (World.cell?_setCell_other (h:=fun e=>hj (by cases e;rfl)) ..).trans (hcell j)
  have hme:w7.cell? ⟨sb,2,none⟩=some (.slice (some ⟨g1,0,none⟩) (wt.length+1) cap):=by rw [←hW7];exact World.cell?_setCell_same (h:=hcc) ..
  go_end0
  refine ⟨⟨_,rfl⟩,⟨.slice (some ⟨g1,0,none⟩) (wt.length+1) cap,?_⟩,hB7⟩
  rw [hne]
  refine ⟨(hot 0 (by decide)).trans HSI.out.c0,(hot 1 (by decide)).trans HSI.out.c1,hme,?_,?_,fun j=>?_,HSI.out.ge,by have:=hg67.size;omega,HSI.out.ne,fun e=>hgs.1 (by cases e;rfl),fun e=>hgs.2 (by cases e;rfl)⟩
  ·exact (HN5.out.kept hg56 (.inr (fun e=>HSI.out.ng (by rw [←e];rfl)))).kept hg67 (.inr (fun e=>HSI.out.ne (by cases e;rfl)))
  ·have:=hown.kept hg67 (.inr (fun e=>hgs.1 (by cases e;rfl)))
   show World.ownsRow _ _ _ _ _ _ _
   rw [List.map_append,List.length_append]
   exact this
  ·rw [←hW7]
   exact (World.frozen?_setCell _ _ _ _).trans (hfr6 j)
 ·go_wp2
  go_end0
  refine ⟨⟨_,rfl⟩,⟨wv,?_⟩,Below.refl _ _⟩
  have hne:needC v (nd,wt)=(nd,wt):=by
   unfold needC
   rw [if_pos]
   exact hHB.out
  rw [hne]
  exact HSI.out
end Go.Proofs.Ytlaljeobdddegaa
