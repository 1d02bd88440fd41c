import Derived.Test.YtlaljeobdddegaaJ18
import Derived.Deep.LoopGhost
namespace Go.Proofs.Ytlaljeobdddegaa
open Go.RowKit
def nextsOf (G:GrD):List Nat:=G.lats.map nOf
def rootsV (G:GrD):List Nat:=G.outs.map vOf
structure Good (G:GrD) (ni n:Nat) (pd:List Nat) (s:List Bool × List Nat):Prop where
 wait:Wait (firstN G) ni (opsOf G) (nextsOf G) (rootsV G) pd s.1 s.2
 len:s.1.length=n
 cnt:s.1.count false+s.2.length≤n
 low:∀ v,v<firstN G→On s.1 v
theorem needC_cnt {v:Nat} {s:List Bool × List Nat} (hv:v<s.1.length):(needC v s).1.count false+(needC v s).2.length=s.1.count false+s.2.length:=by
 unfold needC
 split
 ·rfl
 ·next hn =>
  have:=count_set hv hn
  simp only [List.length_append,List.length_singleton]
  omega
theorem Good.need {G:GrD} {ni n:Nat} {pd:List Nat} {s:List Bool × List Nat} (h:Good G ni n pd s) {v:Nat} (hv:v<n) (hs:v<firstN G∨Nd (firstN G) (opsOf G) (nextsOf G++rootsV G) v):Good G ni n pd (needC v s) :=
 ⟨h.wait.need v (by rw [h.len];exact hv) hs,(needC_len v s).trans h.len,by rw [needC_cnt (by rw [h.len];exact hv)];exact h.cnt,fun x hx=>needC_keep (h.low x hx)⟩
theorem Good.begun {G:GrD} {ni n:Nat} (hF:FineG G ni n):Good G ni n [] (begunC ni G.lats.length (n - firstN G)):=by
 have h1:=hF.first
 have h2:=hF.all
 have hw:=begunC_wait ni G.lats.length (n - firstN G) (opsOf G) (nextsOf G) (rootsV G) (by unfold nextsOf;simp)
 rw [←h1] at hw
 refine ⟨hw,?_,?_,fun v hv=>?_⟩
 ·unfold begunC;simp;omega
 ·unfold begunC
  simp only [List.count_append,List.count_replicate,List.length_map,List.length_range]
  simp;omega
 ·unfold On begunC
  rw [List.getElem?_append_left (by simp;omega),List.getElem?_replicate,if_pos (by omega)]
theorem Good.look {G:GrD} {ni n:Nat} (hF:FineG G ni n) {nd:List Bool} {wt:List Nat} {v:Nat} (h:Good G ni n [] (nd,wt++[v])) :
  Good G ni n [] (lookC G v (nd,wt))∧leftC (lookC G v (nd,wt))<leftC (nd,wt++[v])∧ni<v∧v<n∧(∀ x,On nd x→On (lookC G v (nd,wt)).1 x):=by
 have hp:=h.wait.pop
 have hvw:=h.wait.wts v (by simp)
 have hl:nd.length=n:=h.len
 have hvn:v<n:=by have:=hvw.2.1;simp only at this;omega
 have hc:nd.count false+wt.length≤n:=by have:=h.cnt;simp at this;omega
 have h0:Good G ni n [v] (nd,wt):=⟨hp,hl,hc,h.low⟩
 have hlt:leftC (nd,wt)<leftC (nd,wt++[v]):=by unfold leftC;simp
 have h1:=hF.first
 have h2:=hF.all
 refine ⟨?_,?_,hvw.1,hvn,?_⟩
 ·unfold lookC
  split
  ·next hf =>
   have hi:v - 1 - G.ins.toNat<G.lats.length:=by rw [hF.ins];have:=hvw.1;omega
   obtain ⟨l,hll⟩:=getElem_lt hi
   rw [hll]
   have hin:=hF.lats l (List.mem_of_getElem? hll)
   have hm:l.next.toNat / 2 ∈ nextsOf G:=List.mem_map.2 ⟨l,List.mem_of_getElem? hll,rfl⟩
   have hg:=h0.need (v:=l.next.toNat / 2) (by omega) (.inr (nd_root (List.mem_append.2 (.inl hm))))
   refine ⟨hg.wait.looked (fun i a b ho e=>by omega) (fun i x hx e=>?_),hg.len,hg.cnt,hg.low⟩
   have hi2:i=v - 1 - G.ins.toNat:=by rw [hF.ins];omega
   unfold nextsOf at hx
   rw [List.getElem?_map,hi2,hll] at hx
   have hx':nOf l=x:=by simpa using hx
   rw [←hx']
   exact needC_on (by simp only;rw [hl];omega)
  ·next hf =>
   have hi:v - firstN G<G.ands.length:=by omega
   obtain ⟨d,hd⟩:=getElem_lt hi
   rw [hd]
   have hin:=hF.ands _ d hd
   have hop:(opsOf G)[v - firstN G]?=some (d.x.toNat / 2,d.y.toNat / 2):=by unfold opsOf;rw [List.getElem?_map,hd];rfl
   have hnd:Nd (firstN G) (opsOf G) (nextsOf G++rootsV G) (firstN G+(v - firstN G)):=by
    rw [show firstN G+(v - firstN G)=v by omega]
    rcases hp.sound v hvw.2.2 with h3 | h3
    ·exact absurd h3 hf
    ·exact h3
   obtain ⟨ha,hb⟩:=nd_op hop hnd
   have g1:=h0.need (v:=d.x.toNat / 2) (by omega) (.inr ha)
   have g2:=g1.need (v:=d.y.toNat / 2) (by omega) (.inr hb)
   refine ⟨g2.wait.looked (fun i a b ho e=>?_) (fun i x hx e=>?_),g2.len,g2.cnt,g2.low⟩
   ·have hi2:i=v - firstN G:=by omega
    rw [hi2,hop] at ho
    have e1:d.x.toNat / 2=a∧d.y.toNat / 2=b:=by simpa using ho
    rw [←e1.1,←e1.2]
    exact ⟨needC_keep (needC_on (by simp only;omega)),needC_on (by rw [g1.len];omega)⟩
   ·have:=(List.getElem?_eq_some_iff.1 hx).1
    unfold nextsOf at this
    simp at this
    omega
 ·refine Nat.lt_of_le_of_lt ?_ hlt
  unfold lookC
  split
  ·next hf =>
   split
   ·next l hll =>
    have hin:=hF.lats l (List.mem_of_getElem? hll)
    exact needC_left (by simp only;omega)
   ·exact Nat.le_refl _
  ·next hf =>
   split
   ·next d hd =>
    have hin:=hF.ands _ d hd
    have hk:=(List.getElem?_eq_some_iff.1 hd).1
    exact Nat.le_trans (needC_left (by rw [needC_len];simp only;omega)) (needC_left (by simp only;omega))
   ·exact Nat.le_refl _
 ·intro x hx
  unfold lookC
  split
  ·split
   ·exact needC_keep hx
   ·exact hx
  ·split
   ·exact needC_keep (needC_keep hx)
   ·exact hx
theorem found_nk {G:GrD} {ni n:Nat} (hF:FineG G ni n) {nd:List Bool} (h:Good G ni n [] (nd,[])) (hr:∀ r,r ∈ rootsV G→On nd r):nd=List.replicate (firstN G) true++nkOf G:=by
 have h1:=hF.first
 have h2:=hF.all
 have hl:nd.length=n:=h.len
 have e1:=low_on (first:=firstN G) (nd:=nd) (by omega) h.low
 have hA:∀ v,firstN G≤v→(On nd v↔Nd (firstN G) (opsOf G) (nextsOf G++rootsV G) v):=fun v hv=>h.wait.done hr v hv
 have hops:∀ (i a b:Nat),(opsOf G)[i]?=some (a,b)→a<firstN G+i∧b<firstN G+i∧i<G.ands.length:=by
  intro i a b ho
  unfold opsOf at ho
  rw [List.getElem?_map] at ho
  cases hd:G.ands[i]? with
  | none=>rw [hd] at ho;cases ho
  | some d =>
   rw [hd] at ho
   have e:d.x.toNat / 2=a∧d.y.toNat / 2=b:=by simpa using ho
   have hin:=hF.ands i d hd
   have:=(List.getElem?_eq_some_iff.1 hd).1
   omega
 have hB:∀ v,firstN G≤v→(On (needR G) v↔Nd (firstN G) (opsOf G) (nextsOf G++rootsV G) v):=by
  intro v _
  have hlen:(opsOf G).length=G.ands.length:=by unfold opsOf;simp
  have:=sweepC_all (first:=firstN G) (ops:=opsOf G) (roots:=nextsOf G++rootsV G) (nd:=nd0C G) (fun i a b ho=>⟨(hops i a b ho).1,(hops i a b ho).2.1⟩) (fun i a b ho=>by
   have:=hops i a b ho
   rw [nd0C_len];omega) (fun x=>?_) v
  ·rw [hlen] at this
   exact this
  ·unfold nd0C
   rw [marks_on,marks_on]
   ·have hF0:¬ On (List.replicate (firstN G+G.ands.length) false) x:=by
     unfold On
     rw [List.getElem?_replicate]
     split <;> simp
    rw [List.mem_append]
    unfold nextsOf rootsV
    simp [hF0]
   ·intro r hrm
    obtain ⟨o,ho,rfl⟩:=List.mem_map.1 hrm
    have:=hF.outs o ho
    rw [List.length_replicate];unfold vOf;omega
   ·intro r hrm
    obtain ⟨l,hlm,rfl⟩:=List.mem_map.1 hrm
    have:=hF.lats l hlm
    rw [marks_len,List.length_replicate];unfold nOf;omega
 have e2:=same_nk (first:=firstN G) (by rw [needR_len];omega) hA hB
 rw [e1,e2]
 have:(List.replicate (firstN G) true++(needR G).drop (firstN G))=List.replicate (firstN G) true++nkOf G:=rfl
 rw [this]
end Go.Proofs.Ytlaljeobdddegaa

namespace Go.Proofs.Ytlaljeobdddegaa
open Go.RowKit
theorem SiAt.mark {C:Nat} {w:World} {sb gb g n:Nat} {s:List Bool × List Nat} {wv:Value} (h:SiAt C w sb gb g n s wv) (k:Nat) (hC:C≤w.heap.size):SiAt C (w.setCell ⟨g,k,none⟩ (.bool true)) sb gb g n (s.1.set k true,s.2) wv∧Below C w (w.setCell ⟨g,k,none⟩ (.bool true)):=by
 obtain ⟨h1,hg⟩:=h.nd.stored k (.bool true)
 rw [show Value.bool true=bV true from rfl,←List.map_set] at h1
 have hgC:=(h.nd.lt g rfl).1
 refine ⟨⟨(hg.cell_far ⟨sb,0,none⟩ h.lt (by simpa using h.ne)).trans h.c0,(hg.cell_far ⟨sb,1,none⟩ h.lt (by simpa using h.ne)).trans h.c1,(hg.cell_far ⟨sb,2,none⟩ h.lt (by simpa using h.ne)).trans h.c2,h1,h.wt.kept hg (.inr h.ng),fun j=>(hg.frozen_far ⟨sb,j,none⟩ h.lt (by simpa using h.ne)).trans (h.fr j),h.ge,Nat.lt_of_lt_of_le h.lt hg.size,h.ne,h.nw,h.ng⟩,below_grown hg hC (fun k hk=>by have:=Option.some.inj hk;omega)⟩
theorem own_pop {w:World} {C e k cap:Nat} {a:Option Addr} {xs:List Value} {x:Value} (h:w.ownsRow C e 1 (.slice a (k+1) cap) (k+1) (xs++[x])):∃ gg,a=some ⟨gg,0,none⟩∧k+1≤cap∧w.ownsRow C e 1 (.slice a k cap) k xs∧w.cell? ⟨gg,k,none⟩=some x:=by
 have hl:=h.1
 simp at hl
 rcases h.2 with ⟨h0,_⟩ | ⟨gg,cap',cur,hv,hb,hg,hc1,hc2,hcs,ht⟩
 ·cases h0
 ·simp only [Value.slice.injEq] at hv
  obtain ⟨rfl,_,rfl⟩:=hv
  refine ⟨gg,rfl,hc1,⟨by omega,.inr ⟨gg,cap,cur,rfl,hb,hg,by omega,hc2,hcs,?_⟩⟩,?_⟩
  ·have:=congrArg (List.take k) ht
   rw [List.take_take,List.take_left' (by omega)] at this
   rw [←this]
   congr 1;omega
  ·rw [h.cellAt k (by omega),List.getElem?_append_right (by omega)]
   simp [hl]
set_option maxRecDepth 100000 in
set_option maxHeartbeats 8000000 in
theorem clIns (wc:World) (C sb gb g n ni:Nat) (wv:Value) (HSI:Hid (SiAt C wc sb gb g n (List.replicate n false,[]) wv)) (hC:C≤wc.heap.size) (hn:n≤60000) (hni:1+ni≤n) (K':Act→World→Prop) (Q0:Exit→Act→World→Prop) (x0 x1 x2 x3 x4 x6 x7 x8 x9 x10 x11 x12 x13 x14 x15 x16 x17 x18 x19 x20 x23 x24 x25 x26 x27 x28 x29 x30 x31 x32 x33 x34 x35 x36 x37 x38 x39 x40 x41 x42 x43 x44 x45 x46 x47 x48 x49 x50 x51 x52 x53 x54 x55 x56 x57 x58 x59 x60 x61 x62 x63 x64 x65 x66 x67 x68 x69 x70 x71 x72 x73 x74 x75 x76 x77 x78 x79 x80 x81:Value)
  (HK:Hid (∀ (w':World) (s6 s22 s23 s24 s25 s26 s27 s28 s29:Value),SiAt C w' sb gb g n (begunC ni 0 (n - (1+ni))) wv∧Below C wc w'→K' ⟨#[x0,x1,x2,x3,x4,.pointer (some ⟨sb,0,none⟩),s6,x7,x8,x9,x10,x11,x12,x13,x14,x15,x16,x17,x18,x19,x20,.int .i64 (1+(ni:Int)),s22,s23,s24,s25,s26,s27,s28,s29,x30,x31,x32,x33,x34,x35,x36,x37,x38,x39,x40,x41,x42,x43,x44,x45,x46,x47,x48,x49,x50,x51,x52,x53,x54,x55,x56,x57,x58,x59,x60,x61,x62,x63,x64,x65,x66,x67,x68,x69,x70,x71,x72,x73,x74,x75,x76,x77,x78,x79,x80,x81],[]⟩ w')) :
  Code.wp Try.prog ((Try.f32.body.bind (blockAt 0)).getD .skip) (Exit.then K' Q0) ⟨#[x0,x1,x2,x3,x4,.pointer (some ⟨sb,0,none⟩),x6,x7,x8,x9,x10,x11,x12,x13,x14,x15,x16,x17,x18,x19,x20,.int .i64 (1+(ni:Int)),.int .i64 0,x23,x24,x25,x26,x27,x28,x29,x30,x31,x32,x33,x34,x35,x36,x37,x38,x39,x40,x41,x42,x43,x44,x45,x46,x47,x48,x49,x50,x51,x52,x53,x54,x55,x56,x57,x58,x59,x60,x61,x62,x63,x64,x65,x66,x67,x68,x69,x70,x71,x72,x73,x74,x75,x76,x77,x78,x79,x80,x81],[]⟩ wc:=by
 conv=>arg 2;whnf
 go_wp2_with fail
 go_loopw [22] (fun i' w'=>∃ (k:Nat),k≤1+ni∧i' = .int .i64 k∧Hid (SiAt C w' sb gb g n (List.replicate k true++List.replicate (n - k) false,[]) wv)∧Hid (Below C wc w')) (fun i' _=>1+ni - (intOf i').toNat)
 case atStart=>exact ⟨0,Nat.zero_le _,rfl,by show SiAt _ _ _ _ _ _ _ _;have:=HSI.out;simpa using this,Below.refl _ _⟩
 case round =>
  obtain ⟨k,hk,rfl,HS,HB⟩:=hrel
  by_cases hlt:k<1+ni
  ·have hltI:(k:Int)<(1:Int)+(ni:Int):=by omega
   have e3:IntKind.i64.wrap ((k:Int)+1)=(k:Int)+1:=wrapI _ (by omega) (by omega)
   have hkn:(k:Int)<(n:Int):=by omega
   have c1:=HS.out.c1
   have hcl:=HS.out.nd.cellAt k (by omega)
   have hfz:=HS.out.nd.frozenAt k
   have hold:∃ old,wr.cell? ⟨g,k,none⟩=some old:=by
    rw [hcl]
    have hL:k<((List.replicate k true++List.replicate (n - k) false).map bV).length:=by simp;omega
    exact ⟨_,List.getElem?_eq_getElem hL⟩
   obtain ⟨old,hold⟩:=hold
   have HMK:=hidden (HS.out.mark k (by have:=HB.out.size;omega))
   have HE:Hid ((List.replicate k true++List.replicate (n - k) false).set k true=List.replicate (k+1) true++List.replicate (n - (k+1)) false):=by
    show _=_
    rw [show n - k=(n - (k+1))+1 by omega,List.replicate_succ (n:=n - (k+1))]
    have:=set_mid (List.replicate k true) false true (List.replicate (n - (k+1)) false)
    rw [List.length_replicate] at this
    rw [this,List.replicate_succ' (n:=k)];simp
   clear hcl
   go_wp2_with fail
   generalize hW5:World.setCell wr _ _=w5
   rw [hW5] at HMK
   have HS5:Hid (SiAt C w5 sb gb g n (List.replicate (k+1) true++List.replicate (n - (k+1)) false,[]) wv):=by
    have:=HMK.out.1
    simp only at this
    rw [HE.out] at this
    exact this
   have HB5:Hid (Below C wc w5):=HB.out.trans HMK.out.2
   clear hW5 HMK hold hfz HS HB HE c1
   go_wp2
   go_roundw
   case measure=>simp [intOf];omega
   case rel=>exact ⟨k+1,by omega,by simp,HS5.out,HB5.out⟩
  ·have hge:¬ ((k:Int)<(1:Int)+(ni:Int)):=by omega
   have HEN:Hid (SiAt C wr sb gb g n (begunC ni 0 (n - (1+ni))) wv):=by
    have:=HS.out
    rw [show k=1+ni by omega] at this
    exact this
   clear HS
   go_wp2
   exact HK.out _ _ _ _ _ _ _ _ _ _ ⟨HEN.out,HB.out⟩
set_option maxRecDepth 100000 in
set_option maxHeartbeats 8000000 in
theorem clLats (wc:World) (C sb gb g n ni nl:Nat) (wv:Value) (HSI:Hid (SiAt C wc sb gb g n (begunC ni 0 (n - (1+ni))) wv)) (hC:C≤wc.heap.size) (hn:n≤60000) (hni:1+ni+nl≤n) (q0:wc.cell? ⟨gb,0,none⟩=some (.int .i64 (ni:Int))) (hgb:gb<C) (K':Act→World→Prop) (Q0:Exit→Act→World→Prop) (x1 x2 x3 x4 x6 x7 x8 x9 x10 x11 x12 x13 x14 x15 x16 x17 x18 x19 x20 x21 x22 x23 x24 x25 x26 x27 x28 x29 x30 x31 x32 x33 x34 x37 x38 x39 x40 x41 x42 x43 x44 x45 x46 x47 x48 x49 x50 x51 x52 x53 x54 x55 x56 x57 x58 x59 x60 x61 x62 x63 x64 x65 x66 x67 x68 x69 x70 x71 x72 x73 x74 x75 x76 x77 x78 x79 x80 x81:Value)
  (HK:Hid (∀ (w':World) (s7 s36 s37 s38 s39 s40 s41 s42 s43 s44 s45 s46 s47 s48:Value),(∃ wv',SiAt C w' sb gb g n (begunC ni nl (n - (1+ni) - nl)) wv')∧Below C wc w'→K' ⟨#[.pointer (some ⟨gb,0,none⟩),x1,x2,x3,x4,.pointer (some ⟨sb,0,none⟩),x6,s7,x8,x9,x10,x11,x12,x13,x14,x15,x16,x17,x18,x19,x20,x21,x22,x23,x24,x25,x26,x27,x28,x29,x30,x31,x32,x33,x34,.int .i64 (nl:Int),s36,s37,s38,s39,s40,s41,s42,s43,s44,s45,s46,s47,s48,x49,x50,x51,x52,x53,x54,x55,x56,x57,x58,x59,x60,x61,x62,x63,x64,x65,x66,x67,x68,x69,x70,x71,x72,x73,x74,x75,x76,x77,x78,x79,x80,x81],[]⟩ w')) :
  Code.wp Try.prog ((Try.f32.body.bind (blockAt 2)).getD .skip) (Exit.then K' Q0) ⟨#[.pointer (some ⟨gb,0,none⟩),x1,x2,x3,x4,.pointer (some ⟨sb,0,none⟩),x6,x7,x8,x9,x10,x11,x12,x13,x14,x15,x16,x17,x18,x19,x20,x21,x22,x23,x24,x25,x26,x27,x28,x29,x30,x31,x32,x33,x34,.int .i64 (nl:Int),.int .i64 0,x37,x38,x39,x40,x41,x42,x43,x44,x45,x46,x47,x48,x49,x50,x51,x52,x53,x54,x55,x56,x57,x58,x59,x60,x61,x62,x63,x64,x65,x66,x67,x68,x69,x70,x71,x72,x73,x74,x75,x76,x77,x78,x79,x80,x81],[]⟩ wc:=by
 conv=>arg 2;whnf
 go_wp2_with fail
 go_loopw [36] (fun i' w'=>∃ (k:Nat) (wv':Value),k≤nl∧i' = .int .i64 k∧Hid (SiAt C w' sb gb g n (begunC ni k (n - (1+ni) - k)) wv')∧Hid (Below C wc w')) (fun i' _=>nl - (intOf i').toNat)
 case atStart=>exact ⟨0,wv,Nat.zero_le _,rfl,by show SiAt _ _ _ _ _ _ _ _;have:=HSI.out;simpa using this,Below.refl _ _⟩
 case round =>
  obtain ⟨k,wv',hk,rfl,HS,HB⟩:=hrel
  by_cases hlt:k<nl
  ·have hltI:(k:Int)<(nl:Int):=by omega
   have e3:IntKind.i64.wrap ((k:Int)+1)=(k:Int)+1:=wrapI _ (by omega) (by omega)
   have e0:IntKind.i64.wrap ((1:Int)+(ni:Int))=(1:Int)+(ni:Int):=wrapI _ (by omega) (by omega)
   have e1:IntKind.i64.wrap ((1:Int)+(ni:Int)+(k:Int))=(1:Int)+(ni:Int)+(k:Int):=wrapI _ (by omega) (by omega)
   have e2:IntKind.i64.wrap (2*((1:Int)+(ni:Int)+(k:Int)))=2*((1:Int)+(ni:Int)+(k:Int)):=wrapI _ (by omega) (by omega)
   have g0:=(HB.out.cell (p:=⟨gb,0,none⟩) hgb).trans q0
   have hsz:=HB.out.size
   have ND:Hid (Calls Try.prog 46 #[.pointer (some ⟨sb,0,none⟩),.int .i64 (2*((1:Int)+(ni:Int)+(k:Int)))] wr fun e w''=>(∃ x,e = .returned x)∧(∃ wv',SiAt C w'' sb gb g n (begunC ni (k+1) (n - (1+ni) - (k+1))) wv')∧Below C wr w''):=by
    have:=needC_any C wr sb gb g n _ wv' HS.out (by omega) hn (2*((1:Int)+(ni:Int)+(k:Int))) (1+ni+k) (by omega) (by omega) (by omega) (by unfold begunC;simp;omega)
    rw [show n - (1+ni) - k=(n - (1+ni) - (k+1))+1 by omega,begunC_next] at this
    exact this
   go_wp2_with fail
   go_at_call 46
   refine ND.out.mono ?_
   rintro e w5 ⟨⟨_,rfl⟩,⟨wv5,hs5⟩,hb5⟩
   have HS5:=hidden hs5
   have HB5:Hid (Below C wc w5):=HB.out.trans hb5
   clear hs5 hb5 ND HS HB g0
   go_wp2
   go_roundw
   case measure=>simp [intOf];omega
   case rel=>exact ⟨k+1,wv5,by omega,by simp,HS5.out,HB5.out⟩
  ·have hge:¬ ((k:Int)<(nl:Int)):=by omega
   have HEN:Hid (SiAt C wr sb gb g n (begunC ni nl (n - (1+ni) - nl)) wv'):=by
    have:=HS.out
    rw [show k=nl by omega] at this
    exact this
   clear HS
   go_wp2
   exact HK.out _ _ _ _ _ _ _ _ _ _ _ _ _ _ _ ⟨⟨wv',HEN.out⟩,HB.out⟩
set_option maxRecDepth 100000 in
set_option maxHeartbeats 8000000 in
theorem clOuts (wc:World) (G:GrD) (C B sb gb g n ni:Nat) (a:Option Addr) (c:Nat) (s0:List Bool × List Nat) (wv:Value) (HSI:Hid (SiAt C wc sb gb g n s0 wv)) (HGD:Hid (Good G ni n [] s0)) (hC:C≤wc.heap.size) (hn:n≤60000) (HRW:Hid (RowAt B wc a 1 (G.outs.map intC))) (hBC:B≤C) (hlen:G.outs.length≤60000) (hin:∀ z,z ∈ G.outs→0≤z∧z<2*(n:Int)) (K':Act→World→Prop) (Q0:Exit→Act→World→Prop) (x0 x1 x2 x3 x4 x6 x7 x8 x9 x10 x11 x12 x13 x14 x15 x16 x17 x18 x19 x20 x21 x22 x23 x24 x25 x26 x27 x28 x29 x30 x31 x32 x33 x34 x35 x36 x37 x38 x39 x40 x41 x42 x43 x44 x45 x46 x47 x48 x49 x50 x51 x55 x56 x57 x58 x59 x60 x61 x62 x63 x64 x65 x66 x67 x68 x69 x70 x71 x72 x73 x74 x75 x76 x77 x78 x79 x80 x81:Value)
  (HK:Hid (∀ (w':World) (s9 s54 s55 s56 s57 s58 s59 s60:Value),(∃ s wv',SiAt C w' sb gb g n s wv'∧Good G ni n [] s∧(∀ r,r ∈ rootsV G→On s.1 r))∧Below C wc w'→K' ⟨#[x0,x1,x2,x3,x4,.pointer (some ⟨sb,0,none⟩),x6,x7,x8,s9,x10,x11,x12,x13,x14,x15,x16,x17,x18,x19,x20,x21,x22,x23,x24,x25,x26,x27,x28,x29,x30,x31,x32,x33,x34,x35,x36,x37,x38,x39,x40,x41,x42,x43,x44,x45,x46,x47,x48,x49,x50,x51,.slice a G.outs.length c,.int .i64 (G.outs.length:Int),s54,s55,s56,s57,s58,s59,s60,x61,x62,x63,x64,x65,x66,x67,x68,x69,x70,x71,x72,x73,x74,x75,x76,x77,x78,x79,x80,x81],[]⟩ w')) :
  Code.wp Try.prog ((Try.f32.body.bind (blockAt 4)).getD .skip) (Exit.then K' Q0) ⟨#[x0,x1,x2,x3,x4,.pointer (some ⟨sb,0,none⟩),x6,x7,x8,x9,x10,x11,x12,x13,x14,x15,x16,x17,x18,x19,x20,x21,x22,x23,x24,x25,x26,x27,x28,x29,x30,x31,x32,x33,x34,x35,x36,x37,x38,x39,x40,x41,x42,x43,x44,x45,x46,x47,x48,x49,x50,x51,.slice a G.outs.length c,.int .i64 (G.outs.length:Int),.int .i64 0,x55,x56,x57,x58,x59,x60,x61,x62,x63,x64,x65,x66,x67,x68,x69,x70,x71,x72,x73,x74,x75,x76,x77,x78,x79,x80,x81],[]⟩ wc:=by
 conv=>arg 2;whnf
 go_wp2_with fail
 go_loopw [54] (fun i' w'=>∃ (k:Nat) (s:List Bool × List Nat) (wv':Value),k≤G.outs.length∧i' = .int .i64 k∧Hid (SiAt C w' sb gb g n s wv')∧Hid (Good G ni n [] s)∧Hid (∀ r,r ∈ (G.outs.take k).map vOf→On s.1 r)∧Hid (Below C wc w')) (fun i' _=>G.outs.length - (intOf i').toNat)
 case atStart=>exact ⟨0,s0,wv,Nat.zero_le _,rfl,HSI.out,HGD.out,by intro r hr;simp at hr,Below.refl _ _⟩
 case round =>
  obtain ⟨k,s,wv',hk,rfl,HS,HGo,HR,HB⟩:=hrel
  by_cases hlt:k<G.outs.length
  ·obtain ⟨z,hz⟩:∃ z,G.outs[k]?=some z:=getElem_lt hlt
   obtain ⟨rb,ro,ea,hrb,hrc⟩:=HRW.out.intR hz
   subst ea
   have hltI:(k:Int)<(G.outs.length:Int):=by omega
   have e3:IntKind.i64.wrap ((k:Int)+1)=(k:Int)+1:=wrapI _ (by omega) (by omega)
   have c1:=(HB.out.cell (p:=⟨rb,ro+k,none⟩) (by show rb<C;omega)).trans hrc
   have hsz:=HB.out.size
   have hzi:=hin z (List.mem_of_getElem? hz)
   have ND:Hid (Calls Try.prog 46 #[.pointer (some ⟨sb,0,none⟩),.int .i64 z] wr fun e w''=>(∃ x,e = .returned x)∧(∃ wv',SiAt C w'' sb gb g n (needC (vOf z) s) wv')∧Below C wr w''):=needC_any C wr sb gb g n s wv' HS.out (by omega) hn z (vOf z) hzi.1 rfl (by unfold vOf;omega) (by have:=HGo.out.cnt;omega)
   have HG5:Hid (Good G ni n [] (needC (vOf z) s)):=HGo.out.need (by unfold vOf;omega) (.inr (nd_root (List.mem_append.2 (.inr (List.mem_map.2 ⟨z,List.mem_of_getElem? hz,rfl⟩)))))
   have HR5:Hid (∀ r,r ∈ (G.outs.take (k+1)).map vOf→On (needC (vOf z) s).1 r):=by
    intro r hr
    rw [take_snoc hz,List.map_append] at hr
    rcases List.mem_append.1 hr with hr | hr
    ·exact needC_keep (HR.out r hr)
    ·have e:r=vOf z:=by simpa using hr
     rw [e]
     exact needC_on (by rw [HGo.out.len];unfold vOf;omega)
   generalize needC (vOf z) s=s5 at *
   clear hrc hz hzi HR HGo HS
   go_wp2_with fail
   go_at_call 46
   refine ND.out.mono ?_
   rintro e w5 ⟨⟨_,rfl⟩,⟨wv5,hs5⟩,hb5⟩
   have HS5:=hidden hs5
   have HB5:Hid (Below C wc w5):=HB.out.trans hb5
   clear hs5 hb5 ND HB c1
   go_wp2
   go_roundw
   case measure=>simp [intOf];omega
   case rel=>exact ⟨k+1,s5,wv5,by omega,by simp,HS5.out,HG5.out,HR5.out,HB5.out⟩
  ·have hge:¬ ((k:Int)<(G.outs.length:Int)):=by omega
   have HEN:Hid (∀ r,r ∈ rootsV G→On s.1 r):=by
    have:=HR.out
    rw [List.take_of_length_le (by omega)] at this
    exact this
   clear HR
   go_wp2
   exact HK.out _ _ _ _ _ _ _ _ _ ⟨⟨s,wv',HS.out,HGo.out,HEN.out⟩,HB.out⟩
set_option maxRecDepth 100000 in
set_option maxHeartbeats 8000000 in
theorem clWork (wc:World) (G:GrD) (S:GrS) (C B sb gb g n ni:Nat) (HF:Hid (FineG G ni n)) (s0:List Bool × List Nat) (wv:Value) (HSI:Hid (SiAt C wc sb gb g n s0 wv)) (HGD:Hid (Good G ni n [] s0)) (HR0:Hid (∀ r,r ∈ rootsV G→On s0.1 r)) (hC:C≤wc.heap.size) (hn:n≤60000) (HBX:Hid (BoxAt wc gb S G)) (hgbC:gb<C) (HAT:Hid (GrAt B wc S G)) (hBC:B≤C) (K':Act→World→Prop) (Q0:Exit→Act→World→Prop) (x0 x1 x2 x3 x4 x6 x7 x8 x9 x10 x11 x12 x13 x14 x15 x16 x17 x18 x19 x20 x21 x22 x23 x24 x25 x26 x27 x28 x29 x30 x31 x32 x33 x34 x35 x36 x37 x38 x39 x40 x41 x42 x43 x44 x45 x46 x47 x48 x49 x50 x51 x52 x53 x54 x55 x56 x57 x58 x59 x60 x61 x62 x63 x64 x65 x66 x67 x68 x69 x70 x71 x72 x73 x74 x75 x76 x77 x78 x79 x80 x81:Value)
  (HK:Hid (∀ (w':World) (s10 s11 s61 s62 s63 s64 s65 s66 s67 s68 s69 s70 s71 s72 s73 s74 s75 s76 s77 s78 s79 s80:Value),(∃ nd wv',SiAt C w' sb gb g n (nd,[]) wv'∧Good G ni n [] (nd,[])∧(∀ r,r ∈ rootsV G→On nd r))∧Below C wc w'→K' ⟨#[x0,x1,x2,x3,x4,.pointer (some ⟨sb,0,none⟩),x6,x7,x8,x9,s10,s11,x12,x13,x14,x15,x16,x17,x18,x19,x20,x21,x22,x23,x24,x25,x26,x27,x28,x29,x30,x31,x32,x33,x34,x35,x36,x37,x38,x39,x40,x41,x42,x43,x44,x45,x46,x47,x48,x49,x50,x51,x52,x53,x54,x55,x56,x57,x58,x59,x60,s61,s62,s63,s64,s65,s66,s67,s68,s69,s70,s71,s72,s73,s74,s75,s76,s77,s78,s79,s80,x81],[]⟩ w')) :
  Code.wp Try.prog ((Try.f32.body.bind (blockAt 6)).getD .skip) (Exit.then K' Q0) ⟨#[x0,x1,x2,x3,x4,.pointer (some ⟨sb,0,none⟩),x6,x7,x8,x9,x10,x11,x12,x13,x14,x15,x16,x17,x18,x19,x20,x21,x22,x23,x24,x25,x26,x27,x28,x29,x30,x31,x32,x33,x34,x35,x36,x37,x38,x39,x40,x41,x42,x43,x44,x45,x46,x47,x48,x49,x50,x51,x52,x53,x54,x55,x56,x57,x58,x59,x60,x61,x62,x63,x64,x65,x66,x67,x68,x69,x70,x71,x72,x73,x74,x75,x76,x77,x78,x79,x80,x81],[]⟩ wc:=by
 conv=>arg 2;whnf
 go_wp2_with fail
 go_loopg [] (leftC s0) (fun gk w'=>∃ (s:List Bool × List Nat) (wv':Value),gk=leftC s∧Hid (SiAt C w' sb gb g n s wv')∧Hid (Good G ni n [] s)∧Hid (∀ r,r ∈ rootsV G→On s.1 r)∧Hid (Below C wc w'))
 case atStart=>exact ⟨s0,wv,rfl,HSI.out,HGD.out,HR0.out,Below.refl _ _⟩
 case round =>
  obtain ⟨s,wv',hgk,HS,HGo,HR,HB⟩:=hrel
  subst hgk
  obtain ⟨nd,wt⟩:=s
  obtain ⟨a,c,hwv⟩:=own_form HS.out.wt
  subst hwv
  simp only at HS HGo HR
  rcases List.eq_nil_or_concat wt with hwt | ⟨wt',v,hwt⟩
  ·subst hwt
   have c2:wr.cell? ⟨sb,2,none⟩=some (.slice a 0 c):=HS.out.c2
   go_wp2
   exact HK.out _ _ _ _ _ _ _ _ _ _ _ _ _ _ _ _ _ _ _ _ _ _ _ ⟨⟨nd,_,HS.out,HGo.out,HR.out⟩,HB.out⟩
  ·rw [List.concat_eq_append] at hwt
   subst hwt
   obtain ⟨kl,hkl⟩:∃ kl,kl=wt'.length:=⟨_,rfl⟩
   have hcn:=HGo.out.cnt
   simp only [List.length_append,List.length_singleton] at hcn
   have hcn':kl+1≤n:=by omega
   have HO:=hidden HS.out.wt
   have c2:=HS.out.c2
   simp only [List.length_append,List.length_singleton,←hkl,List.map_append,List.map_cons,List.map_nil] at HO c2
   obtain ⟨gg,ea,hcap,hO2,cv⟩:=own_pop HO.out
   subst ea
   obtain ⟨hGL,hLT,hv0,hvn,hON⟩:=HGo.out.look HF.out
   have HGL:=hidden hGL
   have HLT:=hidden hLT
   have HR5:Hid (∀ r,r ∈ rootsV G→On (lookC G v (nd,wt')).1 r):=fun r hr=>hON r (HR.out r hr)
   have hfr:=HS.out.fr 2
   have hcI:(kl:Int)≤(c:Int):=by omega
   have hnwI:=HS.out.nw
   have hngI:=HS.out.ng
   have eI:IntKind.i64.wrap ((kl:Int)+1 - 1)=(kl:Int):=by rw [wrapI _ (by omega) (by omega)];omega
   have eI2:((kl:Int)+1 - 1)=(kl:Int):=by omega
   have hklI:(kl:Int)<(kl:Int)+1:=by omega
   have hpos:(0:Int)<((kl+1:Nat):Int):=by omega
   have e5:IntKind.i64.wrap (((kl+1:Nat):Int) - 1)=(kl:Int):=by rw [wrapI _ (by omega) (by omega)];omega
   have hk2:(kl:Int)<((kl+1:Nat):Int):=by omega
   have HKL:=hidden hkl
   have cv':wr.cell? ⟨gg,kl,none⟩=some (.int .i64 (v:Int)):=cv
   have HO2:=hidden hO2
   clear hGL hLT hON cv hO2 hkl HO
   go_upto_region 22 with fail
   generalize hW5:World.setCell wr _ _=w5
   have hg5:wr.grownBy w5 (some sb):=by rw [←hW5];exact grown_set _ _ _ _
   have hot:∀ j,j≠2→w5.cell? ⟨sb,j,none⟩=wr.cell? ⟨sb,j,none⟩:=fun j hj=>by
    rw [←hW5]
    exact World.cell?_setCell_other (h:=fun e=>hj (by cases e;rfl)) ..
   have hme:w5.cell? ⟨sb,2,none⟩=some (.slice (some ⟨gg,0,none⟩) kl c):=by rw [←hW5];exact World.cell?_setCell_same (h:=c2) ..
   have hgs:gg≠sb:=fun e=>hnwI (by rw [e];rfl)
   have hgg:gg≠g:=fun e=>hngI (by rw [e];rfl)
   have hB5:Below C wr w5:=below_grown hg5 (by have:=HB.out.size;omega) (fun k hk=>by have:=Option.some.inj hk;have:=HS.out.ge;omega)
   have HS5:Hid (SiAt C w5 sb gb g n (nd,wt') (.slice (some ⟨gg,0,none⟩) kl c)):=by
    refine ⟨(hot 0 (by decide)).trans HS.out.c0,(hot 1 (by decide)).trans HS.out.c1,hme,HS.out.nd.kept hg5 (.inr (fun e=>HS.out.ne (by cases e;rfl))),?_,fun j=>?_,HS.out.ge,Nat.lt_of_lt_of_le HS.out.lt hg5.size,HS.out.ne,fun e=>hgs (by cases e;rfl),fun e=>hgg (by cases e;rfl)⟩
    ·show World.ownsRow _ _ _ _ _ wt'.length _
     rw [←HKL.out]
     exact HO2.out.kept hg5 (.inr (fun e=>hgs (by cases e;rfl)))
    ·rw [←hW5];exact (World.frozen?_setCell _ _ _ _).trans (HS.out.fr j)
   have HB5:Hid (Below C wc w5):=HB.out.trans hB5
   have hs5:=HB5.out.size
   have LK:Hid (Calls Try.prog 47 #[.pointer (some ⟨sb,0,none⟩),.int .i64 (v:Int)] w5 fun e w''=>(∃ x,e = .returned x)∧(∃ wv',SiAt C w'' sb gb g n (lookC G v (nd,wt')) wv')∧Below C w5 w''):=look_any C B w5 sb gb g n ni S G HF.out (nd,wt') _ HS5.out (by omega) (HBX.out.to hgbC HB5.out) hgbC (HAT.out.to (HB5.out.mono hBC)) hBC v hv0 hvn (by simp only;rw [←HKL.out];omega)
   generalize lookC G v (nd,wt')=s6 at *
   clear hW5 hg5 hot hme hB5 HS HB HGo HR HO2 c2 cv' hfr HS5 hnwI hngI
   go_wp2_with fail
   go_at_call 47
   refine LK.out.mono ?_
   rintro e w6 ⟨⟨_,rfl⟩,⟨wv6,hs6⟩,hb6⟩
   have HS6:=hidden hs6
   have HB6:Hid (Below C wc w6):=HB5.out.trans hb6
   clear hs6 hb6 LK HB5
   go_wp2
   go_roundg (leftC s6)
   case measure=>exact HLT.out
   case rel=>exact ⟨s6,wv6,rfl,HS6.out,HGL.out,HR5.out,HB6.out⟩
end Go.Proofs.Ytlaljeobdddegaa
