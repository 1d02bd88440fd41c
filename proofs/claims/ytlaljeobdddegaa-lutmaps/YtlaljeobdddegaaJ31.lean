import Derived.Test.YtlaljeobdddegaaJ30
namespace Go.Proofs.Ytlaljeobdddegaa
open Go.RowKit Mp
theorem Bl.tr {a b c:World} (h:Bl a b) (k:Bl b c):Bl a c:=h.trans (k.mono h.size)
theorem any_next {α:Type} (p:α→Bool) (l:List α) (k:Nat) (x:α) (h:l[k]?=some x):(l.take (k+1)).any p=((l.take k).any p || p x):=by
 rw [take_next _ _ _ h,List.any_append];simp
def HasC (Cs:List (List Ct)):Prop:=∀ v,v<Cs.length→Cs.getD v []≠[]
set_option maxRecDepth 100000 in
set_option maxHeartbeats 8000000 in
theorem beats_any (w:World) (S:FnS) (Cs:List (List Ct)) (h:FinR w S Cs) (hcs:HasC Cs) (ab ao bb bo:Nat) (a b:Ct) (ha:CtAt w ab ao a) (hb:CtAt w bb bo b) (la:a.lv.length≤4) (lb:b.lv.length≤4) (hlt:∀ u,u ∈ b.lv→u<Cs.length) :
  Calls Try.prog 77 #[.pointer (some ⟨S.fb,0,none⟩),.pointer (some ⟨ab,ao,none⟩),.pointer (some ⟨bb,bo,none⟩)] w fun e w'=>e = .returned (.bool (beatsB (KOf Cs) a.lv b.lv))∧Bl w w':=by
 have a4:=ha.c4
 have b4:=hb.c4
 have HLB:Hid (∀ v:World,Bl w v→Calls Try.prog 75 #[.pointer (some ⟨bb,bo,none⟩)] v fun e w'=>e = .returned (.slice (some ⟨bb,bo,none⟩) b.lv.length b.lv.length)∧w'=v.drewN 1):=fun v hv=>list_any v bb bo b (hb.to hb.lt hv) lb
 have HBC:Hid (∀ (v:World) (k x:Nat),Bl w v→b.lv[k]?=some x→v.cell? ⟨bb,bo+k,none⟩=some (.int .i64 (x:Nat))):=fun v k x hv hx=>(hb.to hb.lt hv).leaf lb hx
 have HTO:Hid (∀ (v:World) (x:Nat),Bl w v→x ∈ b.lv→Calls Try.prog 81 #[.pointer (some ⟨S.fb,0,none⟩),.int .i64 (x:Int),.pointer (some ⟨ab,ao,none⟩)] v fun e w'=>e = .returned (.bool (toldB (KOf Cs) x a.lv))∧Bl v w'):=fun v x hv hx=>told_any v S Cs (h.to hv) x (hlt x hx) (hcs x (hlt x hx)) ab ao a (ha.to ha.lt hv) la
 have HE:Hid (beatsB (KOf Cs) a.lv b.lv=(decide (a.lv.length≤b.lv.length) && b.lv.all (fun v=>toldB (KOf Cs) v a.lv))):=rfl
 obtain ⟨r,HR⟩:=exh (beatsB (KOf Cs) a.lv b.lv)
 rw [←HR.out] at HE ⊢
 generalize S.fb=fb at *
 obtain ⟨p,HP⟩:∃ p:Nat→Bool,Hid (∀ v,toldB (KOf Cs) v a.lv=p v):=⟨_,fun _=>rfl⟩
 simp only [HP.out] at HTO HE
 generalize a.lv.length=an at *
 generalize b.lv=bl at *
 obtain ⟨n,En⟩:=exh bl.length
 rw [←En.out] at HLB lb b4 HE
 clear ha hb h hcs hlt HP HR
 go_enter Try.func77,Try.ntmps77
 by_cases hle:n<an
 ·have hI:(n:Int)<(an:Int):=by omega
  have HRF:Hid (r=false):=by
   show _=_
   rw [HE.out,decide_eq_false (by omega)];rfl
  clear HE
  go_wp2_with fail
  refine wp_region_noPanic ?_
  refine wp_region_held_drew (S:=fun wz=>wz.cell? ⟨ab,ao+4,none⟩=some (.int .i64 (an:Int))∧wz.cell? ⟨bb,bo+4,none⟩=some (.int .i64 (n:Int))) (by kernel_rfl) (by exact ⟨a4,b4⟩) (fun hHeld=>?_)
  refine tk 0 ?_
  refine tk 1 ?_
  refine tk 2 ?_
  refine tk 3 ?_
  refine tk 4 ?_
  refine tk 5 ?_
  refine tk 6 ?_
  refine tk 7 ?_
  refine tk 8 ?_
  refine wpAnyH_done (by kernel_rfl) ?_ _
  refine NoPanic.normal ?_
  go_wp2
  go_ret
  exact ⟨ret_bool HRF.out.symm,Below.drew (Below.refl _ _)⟩
 have hI:¬ (n:Int)<(an:Int):=by omega
 have HE2:Hid (r=bl.all p):=by
  show _=_
  rw [HE.out,decide_eq_true (by omega),Bool.true_and]
 clear HE
 go_wp2_with fail
 refine wp_region_noPanic ?_
 refine wp_region_held_drew (S:=fun wz=>wz.cell? ⟨ab,ao+4,none⟩=some (.int .i64 (an:Int))∧wz.cell? ⟨bb,bo+4,none⟩=some (.int .i64 (n:Int))) (by kernel_rfl) (by exact ⟨a4,b4⟩) (fun hHeld=>?_)
 refine tk 0 ?_
 refine tk 1 ?_
 refine tk 2 ?_
 refine tk 3 ?_
 refine tk 4 ?_
 refine tk 5 ?_
 refine tk 6 ?_
 refine tk 7 ?_
 refine tk 8 ?_
 refine wpAnyH_done (by kernel_rfl) ?_ _
 refine NoPanic.normal ?_
 go_wp2_with fail
 go_at_call 75
 refine (HLB.out w.drew (Below.drew (Below.refl _ _))).mono ?_
 rintro e v ⟨rfl,hv⟩
 have HB1:Hid (Bl w v):=by rw [hv];exact Below.drewN (Below.drew (Below.refl _ _)) 1
 clear hv a4 b4
 go_wp2_with fail
 go_loopw [8,21] (fun _ i' w'=>∃ k:Nat,k≤n∧i' = .int .i64 (k:Int)∧Hid ((bl.take k).all p=true)∧Hid (Bl w w')) (fun _ i' _=>n - (intOf i').toNat)
 case atStart=>exact ⟨0,Nat.zero_le _,rfl,(by show (bl.take 0).all p=true;rfl),HB1.out⟩
 case round =>
  obtain ⟨k,hk,rfl,HAL,HBW⟩:=hrel
  by_cases hlt:k<n
  ·have hltI:(k:Int)<(n:Int):=by omega
   obtain ⟨x,hx⟩:=getElem_lt (show k<bl.length by rw [←En.out];exact hlt)
   have cx:=HBC.out wr k x HBW.out hx
   have HT:=hidden (HTO.out wr x HBW.out (List.mem_of_getElem? hx))
   have e2:IntKind.i64.wrap ((k:Int)+1)=(k:Int)+1:=wrapI _ (by omega) (by omega)
   have HNX:Hid ((bl.take (k+1)).all p=p x):=by
    show _=_
    rw [all_next _ _ _ _ hx,HAL.out,Bool.true_and]
   have HRF:Hid (p x=false→r=false):=fun hp=>by
    rw [HE2.out]
    cases e:bl.all p with
    | false=>rfl
    | true=>rw [List.all_eq_true.1 e x (List.mem_of_getElem? hx)] at hp;cases hp
   clear hx HAL
   generalize p x=q at *
   go_wp2_with fail
   go_at_call 81
   refine HT.out.mono ?_
   rintro e v2 ⟨rfl,hv2⟩
   have HB2:Hid (Bl w v2):=Bl.tr HBW.out hv2
   clear hv2 HT cx
   cases q with
   | true =>
    clear HRF
    go_wp2
    go_roundw
    case measure=>simp [intOf];omega
    case rel=>exact ⟨k+1,by omega,by simp,HNX.out,HB2.out⟩
   | false =>
    have HRF2:Hid (r=false):=HRF.out rfl
    clear HRF
    go_wp2
    go_ret
    exact ⟨ret_bool HRF2.out.symm,HB2.out⟩
  ·have hge:¬ (k:Int)<(n:Int):=by omega
   have HRT:Hid (r=true):=by
    have:=HAL.out
    rw [List.take_of_length_le (by have:=En.out;omega)] at this
    show _=_
    rw [HE2.out];exact this
   go_wp2
   go_ret
   exact ⟨ret_bool HRT.out.symm,HBW.out⟩
def CtsR (w:World) (ka:Option Addr) (cs:List Ct):Prop:=∀ k c,cs[k]?=some c→∃ b o,ka=some ⟨b,o,none⟩∧CtAt w b (o+k*8) c
theorem CtsR.to {w w':World} {ka:Option Addr} {cs:List Ct} (h:CtsR w ka cs) (hb:Bl w w'):CtsR w' ka cs:=fun k c hc=>by
 obtain ⟨b,o,h1,h2⟩:=h k c hc
 exact ⟨b,o,h1,h2.to h2.lt hb⟩
def LvIn (n:Nat) (c:Ct):Prop:=c.lv.length≤4∧∀ u,u ∈ c.lv→u<n
set_option maxRecDepth 100000 in
set_option maxHeartbeats 8000000 in
theorem beaten_any (w:World) (S:FnS) (Cs:List (List Ct)) (h:FinR w S Cs) (hcs:HasC Cs) (bb bo:Nat) (c:Ct) (hc:CtAt w bb bo c) (lc:LvIn Cs.length c) (ka:Option Addr) (kc:Nat) (ks:List Ct) (hk:CtsR w ka ks) (lk:∀ k,k ∈ ks→LvIn Cs.length k) (hn:ks.length≤1000000) :
  Calls Try.prog 71 #[.pointer (some ⟨S.fb,0,none⟩),.pointer (some ⟨bb,bo,none⟩),.slice ka ks.length kc] w fun e w'=>e = .returned (.bool (ks.any fun k=>beatsB (KOf Cs) k.lv c.lv))∧Bl w w':=by
 have HBT:Hid (∀ (v:World) (k:Nat) (x:Ct),Bl w v→ks[k]?=some x→∃ b o,ka=some ⟨b,o,none⟩∧Calls Try.prog 77 #[.pointer (some ⟨S.fb,0,none⟩),.pointer (some ⟨b,o+k*8,none⟩),.pointer (some ⟨bb,bo,none⟩)] v fun e w'=>e = .returned (.bool (beatsB (KOf Cs) x.lv c.lv))∧Bl v w'):=fun v k x hv hx=>by
  obtain ⟨b,o,h1,h2⟩:=hk k x hx
  exact ⟨b,o,h1,beats_any v S Cs (h.to hv) hcs b _ bb bo x c (h2.to h2.lt hv) (hc.to hc.lt hv) (lk x (List.mem_of_getElem? hx)).1 lc.1 lc.2⟩
 obtain ⟨p,HP⟩:∃ p:Ct→Bool,Hid (∀ k:Ct,beatsB (KOf Cs) k.lv c.lv=p k):=⟨_,fun _=>rfl⟩
 simp only [HP.out] at HBT
 simp only [HP.out]
 obtain ⟨r,HR⟩:∃ r,Hid (r=ks.any fun k=>p k):=⟨_,rfl⟩
 rw [←HR.out]
 generalize S.fb=fb at *
 obtain ⟨n,En⟩:=exh ks.length
 rw [←En.out] at hn ⊢
 clear h hcs hc lc hk lk HP
 go_enter Try.func71,Try.ntmps71
 go_wp2_with fail
 go_loopw [7,10] (fun _ i' w'=>∃ k:Nat,k≤n∧i' = .int .i64 (k:Int)∧Hid ((ks.take k).any (fun k=>p k)=false)∧Hid (Bl w w')) (fun _ i' _=>n - (intOf i').toNat)
 case atStart=>exact ⟨0,Nat.zero_le _,rfl,(by show (ks.take 0).any _=false;rfl),Below.refl _ _⟩
 case round =>
  obtain ⟨k,hk,rfl,HAN,HBW⟩:=hrel
  by_cases hlt:k<n
  ·have hltI:(k:Int)<(n:Int):=by omega
   obtain ⟨x,hx⟩:=getElem_lt (show k<ks.length by rw [←En.out];exact hlt)
   obtain ⟨b,o,ea,hcall⟩:=HBT.out wr k x HBW.out hx
   have HT:=hidden hcall
   have e2:IntKind.i64.wrap ((k:Int)+1)=(k:Int)+1:=wrapI _ (by omega) (by omega)
   have HNX:Hid ((ks.take (k+1)).any (fun k=>p k)=p x):=by
    show _=_
    rw [any_next _ _ _ _ hx,HAN.out,Bool.false_or]
   have HRT:Hid (p x=true→r=true):=fun hp=>by rw [HR.out];exact List.any_eq_true.2 ⟨x,List.mem_of_getElem? hx,hp⟩
   subst ea
   clear hx HAN hcall
   generalize p x=q at *
   go_wp2_with fail
   go_at_call 77
   refine HT.out.mono ?_
   rintro e v2 ⟨rfl,hv2⟩
   have HB2:Hid (Bl w v2):=Bl.tr HBW.out hv2
   clear hv2 HT
   cases q with
   | false =>
    clear HRT
    go_wp2
    go_roundw
    case measure=>simp [intOf];omega
    case rel=>exact ⟨k+1,by omega,by simp,HNX.out,HB2.out⟩
   | true =>
    have HRT2:Hid (r=true):=HRT.out rfl
    clear HRT
    go_wp2
    go_ret
    exact ⟨ret_bool HRT2.out.symm,HB2.out⟩
  ·have hge:¬ (k:Int)<(n:Int):=by omega
   have HRF:Hid (r=false):=by
    have:=HAN.out
    rw [List.take_of_length_le (by have:=En.out;omega)] at this
    show _=_
    rw [HR.out];exact this
   go_wp2
   go_ret
   exact ⟨ret_bool HRF.out.symm,HBW.out⟩
end Go.Proofs.Ytlaljeobdddegaa

namespace Go.Proofs.Ytlaljeobdddegaa
open Go.RowKit Mp
theorem CtAt.heap {w w':World} {b o:Nat} {c:Ct} (h:CtAt w b o c) (hs:w.heap.size≤w'.heap.size) (hb:w'.heap[b]?=w.heap[b]?):CtAt w' b o c:=by
 have e:∀ j,w'.cell? ⟨b,j,none⟩=w.cell? ⟨b,j,none⟩:=fun j=>World.cell?_of_block (a:=⟨b,j,none⟩) hb
 exact ⟨Nat.lt_of_lt_of_le h.lt hs,(e _).trans h.c0,(e _).trans h.c1,(e _).trans h.c2,(e _).trans h.c3,(e _).trans h.c4,(e _).trans h.c5,(e _).trans h.c6,(e _).trans h.c7⟩
structure FnLow (C:Nat) (S:FnS):Prop where
 f:S.fb<C
 a:S.ab<C
 e:S.eb<C
theorem FinR.low {C:Nat} {w w':World} {S:FnS} {Cs:List (List Ct)} (h:FinR w S Cs) (hl:FnLow C S) (hb:Below C w w'):FinR w' S Cs :=
 ⟨(hb.cell (p:=⟨S.fb,0,none⟩) hl.f).trans h.c0,(hb.cell (p:=⟨S.fb,1,none⟩) hl.f).trans h.c1,Nat.lt_of_lt_of_le h.lf hb.size,Nat.lt_of_lt_of_le h.le hb.size,h.cap,fun k c hc=>(h.all k c hc).to hl.a hb,fun v hv=>(hb.cell (p:=⟨S.eb,v,none⟩) hl.e).trans (h.ends v hv),h.few,h.num,h.lv4⟩
def flC (cs:List Ct):List Value:=cs.flatMap ctC
theorem ctC_len (c:Ct):(ctC c).length=8:=rfl
theorem flC_len (cs:List Ct):(flC cs).length=cs.length*8:=by
 unfold flC
 induction cs with
 | nil=>rfl
 | cons a t ih=>rw [List.flatMap_cons,List.length_append,ih,ctC_len,List.length_cons];omega
theorem flC_snoc (cs:List Ct) (c:Ct):flC (cs++[c])=flC cs++ctC c:=by unfold flC;rw [List.flatMap_append];simp
theorem flC_at:∀ {cs:List Ct} {k j:Nat} {c:Ct} {v:Value},cs[k]?=some c→(ctC c)[j]?=some v→(flC cs)[k*8+j]?=some v
 | a :: t,0,j,c,v,hc,hv=>by
  have e:a=c:=by simpa using hc
  have hj:j<8:=(List.getElem?_eq_some_iff.1 hv).1
  show (ctC a++flC t)[0*8+j]?=some v
  rw [Nat.zero_mul,Nat.zero_add,List.getElem?_append_left (by rw [ctC_len];exact hj),e];exact hv
 | a :: t,k+1,j,c,v,hc,hv=>by
  show (ctC a++flC t)[(k+1)*8+j]?=some v
  rw [List.getElem?_append_right (by rw [ctC_len];omega),ctC_len]
  have:(k+1)*8+j - 8=k*8+j:=by omega
  rw [this]
  exact flC_at (by simpa using hc) hv
theorem one_ctC (c:Ct):∀ u ∈ ctC c,u.oneCell'=true:=by
 intro u hu
 unfold ctC at hu
 simp only [List.mem_cons,List.not_mem_nil,or_false] at hu
 rcases hu with rfl | rfl | rfl | rfl | rfl | rfl | rfl | rfl <;> rfl
theorem info_cut0:(Try.prog.info? 114).map (fun i=>(i.zero,i.size,i.bytes))=some (some (.agg #[.int .i64 0,.int .i64 0,.int .i64 0,.int .i64 0,.int .i64 0,.int .u64 0,.int .i64 0,.int .u16 0]),8,64):=by kernel_rfl
theorem info_cut:∃ i,Try.prog.info? 114=some i∧i.zero=some (.agg #[.int .i64 0,.int .i64 0,.int .i64 0,.int .i64 0,.int .i64 0,.int .u64 0,.int .i64 0,.int .u16 0])∧i.size=8∧i.bytes=64:=by
 have h:=info_cut0
 cases hi:Try.prog.info? 114 with
 | none=>rw [hi] at h;simp at h
 | some i=>rw [hi] at h;simp at h;exact ⟨i,rfl,h.1,h.2.1,h.2.2⟩
theorem wpList_append_rm {P:Program} (w:World) {ops:Array Oper} {rest:List Oper} {o:Oper} {a:Act} {Q:Exit→Act→World→Prop} (hgd:o.guard=none) (s x:Operand) (t:TypeId)
  (ho:o.op = .call { callee:=.builtin .append,args:=#[s,x],argTypes:=#[t,t] })
  (e:TypeId) (i:TypeInfo) (size:Nat) (ht:P.underlying t=some (.slice e)) (hi:P.info? e=some i) (hsize:i.size=size)
  (g n cap:Nat) (cur:Array Value) (hs:a.eval s = .slice (some ⟨g,0,none⟩) n cap) (hg:w.heap[g]?=some (.cells cur e (0,0)))
  (ad:Addr) (m c:Nat) (news:List Value) (hx:a.eval x = .slice (some ad) m c) (hl:news.length=m*size) (hnews:∀ j u,news[j]?=some u→w.cell? (ad.add j)=some u) (h1:∀ u ∈ news,u.oneCell'=true)
  (hroom:n+m≤cap) (hfit:n*size+news.length≤cur.size)
  (h:wpList P ops Q rest (a.put o.dst (.slice (some ⟨g,0,none⟩) (n+m) cap)) (w.setRow g (cur.toList.take (n*size)++news++cur.toList.drop (n*size+news.length)).toArray)):wpList P ops Q (o :: rest) a w:=by
 subst hsize
 refine wpList_plain hgd fun K hK=>?_
 have hr:=run_append_room (P:=P) w t o.type e i ht hi g n cap cur hg ad m c news hl hnews h1 hroom hfit
 unfold Oper.wp execOp
 simp only [ho,resolve,invoke,builtin,Sem.run_bind,Sem.run_pure,Result.andThen_ok,List.map_toArray,List.map_cons,List.map_nil,hs,hx,hr]
 exact hK _ _ h
structure Thin (w:World) (kb cap i:Nat) (ks fs:List Ct):Prop where
 ex:∃ cur:Array Value,w.heap[kb]?=some (.cells cur 114 (0,0))∧cur.size=cap*8∧cur.toList.take (fs.length*8)=flC fs∧∀ k c,i≤k→ks[k]?=some c→∀ j v,(ctC c)[j]?=some v→cur[k*8+j]?=some v
theorem Thin.at {w:World} {kb cap i:Nat} {ks fs:List Ct} (h:Thin w kb cap i ks fs) {k:Nat} {c:Ct} (hk:i≤k) (hc:ks[k]?=some c):CtAt w kb (k*8) c:=by
 obtain ⟨cur,h1,h2,h3,h4⟩:=h.ex
 refine CtAt.of (Array.getElem?_eq_some_iff.1 h1).1 (fun j v hv=>?_)
 simp [World.cell?,h1,h4 k c hk hc j v hv]
theorem Thin.to {w w':World} {kb cap i:Nat} {ks fs:List Ct} (h:Thin w kb cap i ks fs) (hb:Bl w w'):Thin w' kb cap i ks fs:=by
 obtain ⟨cur,h1,h2⟩:=h.ex
 exact ⟨cur,(hb.block kb (Array.getElem?_eq_some_iff.1 h1).1).trans h1,h2⟩
theorem Thin.skip {w:World} {kb cap i:Nat} {ks fs:List Ct} (h:Thin w kb cap i ks fs):Thin w kb cap (i+1) ks fs:=by
 obtain ⟨cur,h1,h2,h3,h4⟩:=h.ex
 exact ⟨cur,h1,h2,h3,fun k c hk=>h4 k c (by omega)⟩
theorem Thin.put {w:World} {kb cap i:Nat} {ks fs:List Ct} {c:Ct} {cur:Array Value} (h1:w.heap[kb]?=some (.cells cur 114 (0,0))) (h2:cur.size=cap*8) (h3:cur.toList.take (fs.length*8)=flC fs) (h4:∀ k c,i≤k→ks[k]?=some c→∀ j v,(ctC c)[j]?=some v→cur[k*8+j]?=some v) (hf:fs.length≤i) (hi:i<cap) :
  Thin (w.setRow kb (cur.toList.take (fs.length*8)++ctC c++cur.toList.drop (fs.length*8+(ctC c).length)).toArray) kb cap (i+1) ks (fs++[c]):=by
 have hcl:cur.toList.length=cap*8:=by rw [Array.length_toList];exact h2
 have hlen:(cur.toList.take (fs.length*8)).length=fs.length*8:=by rw [List.length_take,hcl];omega
 refine ⟨_,setRow_heap w kb cur _ _ _ h1,?_,?_,fun k x hk hx j v hv=>?_⟩
 ·rw [List.size_toArray,List.length_append,List.length_append,hlen,ctC_len,List.length_drop,hcl];omega
 ·have e:(fs++[c]).length*8=(cur.toList.take (fs.length*8)++ctC c).length:=by
   have e1:(fs++[c]).length=fs.length+1:=by simp
   rw [e1,List.length_append,hlen,ctC_len];omega
  rw [e,List.take_left,h3,flC_snoc]
 ·have hj:j<8:=(List.getElem?_eq_some_iff.1 hv).1
  have:=h4 k x (by omega) hx j v hv
  rw [List.getElem?_toArray,List.getElem?_append_right (by rw [List.length_append,hlen,ctC_len];omega),List.length_append,hlen,ctC_len,List.getElem?_drop]
  rw [←Array.getElem?_toList] at this
  rw [←this]
  congr 1
  omega
theorem Thin.own {w:World} {C kb cap i:Nat} {ks fs:List Ct} (h:Thin w kb cap i ks fs) (hC:C≤kb) (hf:fs.length≤cap) (hm:cap≤maxLen):w.ownsRow C 114 8 (.slice (some ⟨kb,0,none⟩) fs.length cap) fs.length (flC fs):=by
 obtain ⟨cur,h1,h2,h3,_⟩:=h.ex
 exact ⟨flC_len fs,Or.inr ⟨kb,cap,cur,rfl,hC,h1,hf,hm,h2,h3⟩⟩
theorem Thin.new {w:World} {C kb cap:Nat} {ks:List Ct} (h:w.ownsRow C 114 8 (.slice (some ⟨kb,0,none⟩) ks.length cap) ks.length (flC ks)):C≤kb∧ks.length≤cap∧cap≤maxLen∧Thin w kb cap 0 ks []:=by
 rcases h.2 with ⟨h',_⟩ | ⟨g,cap',cur,h',hg,hh,h1,h2,h3,h4⟩
 ·cases h'
 ·simp only [Value.slice.injEq,Option.some.injEq,Addr.mk.injEq,and_true,true_and] at h'
  obtain ⟨rfl,rfl⟩:=h'
  refine ⟨hg,h1,h2,cur,hh,h3,rfl,fun k c _ hc j v hv=>?_⟩
  have h5:=flC_at hc hv
  have h6:=(List.getElem?_eq_some_iff.1 h5).1
  rw [flC_len] at h6
  rw [←h4,List.getElem?_take_of_lt h6,Array.getElem?_toList] at h5
  exact h5
theorem setRow_grown (w:World) (kb:Nat) (cs:Array Value):w.grownBy (w.setRow kb cs) (some kb):=⟨rfl,rfl,rfl,by simp [World.setRow],fun k _ hk=>setRow_other w kb k cs (fun e=>hk (by rw [e]))⟩
theorem Bl.grown {a b:World} (h:Bl a b) (row:Option Nat):a.grownBy b row:=⟨h.os,h.tape,h.output,h.size,fun k hk _=>h.block k hk⟩
theorem cutsU:Try.prog.underlying 83=some (.slice 114):=by kernel_rfl
theorem cut_none (wx:World):(Instr.sliceAt 83 (.slice none 0 0) none (some (.int .i64 0)) none).run Try.prog wx = .ok (.slice none 0 0) wx:=by
 rw [run_sliceAt_slice wx _ _ _ _ _ cut_u,run_slice_h wx _ _ 0 0 cut_u .i64 0 (by omega) (by omega),cut_s];rfl
theorem cut_some (wx:World) (g n cap:Nat):(Instr.sliceAt 83 (.slice (some ⟨g,0,none⟩) n cap) none (some (.int .i64 0)) none).run Try.prog wx = .ok (.slice (some ⟨g,0,none⟩) 0 cap) wx:=by
 rw [run_sliceAt_slice wx _ _ _ _ _ cut_u,run_slice_h wx _ _ n cap cut_u .i64 0 (by omega) (by omega),cut_s]
 show Result.ok (sliced _ 0 0 cap 8) wx=_
 unfold sliced
 have:(if cap=0 then (some ⟨g,0,none⟩:Option Addr) else (some (⟨g,0,none⟩:Addr)).map (·.add (0*8)))=some ⟨g,0,none⟩:=by
  split
  ·rfl
  ·simp [Addr.add]
 rw [this];rfl
end Go.Proofs.Ytlaljeobdddegaa

namespace Go.Proofs.Ytlaljeobdddegaa
open Go.RowKit Mp
theorem filter_next {α:Type} (p:α→Bool) (l:List α) (k:Nat) (x:α) (h:l[k]?=some x):(l.take (k+1)).filter p=(l.take k).filter p++(if p x then [x] else []):=by
 rw [take_next _ _ _ h,List.filter_append]
 congr 1
 by_cases hp:p x=true
 ·simp [hp]
 ·simp only [Bool.not_eq_true] at hp;simp [hp]
theorem grow_tr {a b c:World} {row:Option Nat} (h:a.grownBy b row) (k:b.grownBy c row):a.grownBy c row :=
 ⟨k.os.trans h.os,k.tape.trans h.tape,k.output.trans h.output,Nat.le_trans h.size k.size,fun i hi hr=>(k.block i (Nat.lt_of_lt_of_le hi h.size) hr).trans (h.block i hi hr)⟩
theorem grow_low {a b:World} {row:Option Nat} {C:Nat} (h:a.grownBy b row) (hC:C≤a.heap.size) (hr:∀ k,row=some k→C≤k):Below C a b :=
 ⟨h.os,h.tape,h.output,h.size,fun k hk=>h.block k (by omega) (fun e=>by have:=hr k e.symm;omega)⟩
set_option maxRecDepth 100000 in
set_option maxHeartbeats 8000000 in
theorem unbeaten_some (C:Nat) (w:World) (S:FnS) (Cs:List (List Ct)) (h:FinR w S Cs) (hl:FnLow C S) (hC:C≤w.heap.size) (hcs:HasC Cs) (bb bo:Nat) (c:Ct) (hc:CtAt w bb bo c) (lc:LvIn Cs.length c) (kb cap:Nat) (ks:List Ct) (ho:w.ownsRow C 114 8 (.slice (some ⟨kb,0,none⟩) ks.length cap) ks.length (flC ks)) (hbk:bb≠kb) (lk:∀ k,k ∈ ks→LvIn Cs.length k) (hn:ks.length≤1000000) :
  Calls Try.prog 73 #[.pointer (some ⟨S.fb,0,none⟩),.slice (some ⟨kb,0,none⟩) ks.length cap,.pointer (some ⟨bb,bo,none⟩)] w fun e w'=>∃ m:Nat,Hid (m=(ks.filter fun k=>!beatsB (KOf Cs) c.lv k.lv).length)∧e = .returned (.slice (some ⟨kb,0,none⟩) m cap)∧Hid (w'.ownsRow C 114 8 (.slice (some ⟨kb,0,none⟩) m cap) m (flC (ks.filter fun k=>!beatsB (KOf Cs) c.lv k.lv)))∧Hid (w.grownBy w' (some kb)):=by
 obtain ⟨hCk,hcap,hmx,hth⟩:=Thin.new ho
 have HTH:=hidden hth
 have HLO:Hid (∀ v:World,w.grownBy v (some kb)→Below C w v):=fun v hv=>grow_low hv hC (fun k e=>by injection e with e;omega)
 have HBT:Hid (∀ (v:World) (k:Nat) (x:Ct),w.grownBy v (some kb)→ks[k]?=some x→CtAt v kb (k*8) x→Calls Try.prog 77 #[.pointer (some ⟨S.fb,0,none⟩),.pointer (some ⟨bb,bo,none⟩),.pointer (some ⟨kb,k*8,none⟩)] v fun e w'=>e = .returned (.bool (beatsB (KOf Cs) c.lv x.lv))∧Bl v w'):=fun v k x hv hx hat =>
  beats_any v S Cs (h.low hl (HLO.out v hv)) hcs bb bo kb _ c x (hc.heap hv.size (hv.block bb hc.lt (fun e=>hbk (by injection e)))) hat lc.1 (lk x (List.mem_of_getElem? hx)).1 (lk x (List.mem_of_getElem? hx)).2
 obtain ⟨p,HP⟩:∃ p:Ct→Bool,Hid (∀ k:Ct,beatsB (KOf Cs) c.lv k.lv=p k):=⟨_,fun _=>rfl⟩
 simp only [HP.out] at HBT ⊢
 obtain ⟨fs,HFS⟩:∃ fs,Hid (fs=ks.filter fun k=>!p k):=⟨_,rfl⟩
 rw [←HFS.out]
 generalize S.fb=fb at *
 obtain ⟨n,En⟩:=exh ks.length
 rw [←En.out] at hn hcap
 rw [←En.out]
 have RS:∀ wx:World,(Instr.sliceAt 83 (.slice (some ⟨kb,0,none⟩) n cap) none (some (.int .i64 0)) none).run Try.prog wx = .ok (.slice (some ⟨kb,0,none⟩) 0 cap) wx:=fun wx=>cut_some wx kb n cap
 obtain ⟨ic,hic,hz,hs,hby⟩:=info_cut
 have HI:=hidden hic
 have HSI:=hidden hs
 clear h hcs hc lc lk HP ho hth hic hz hs hby hl
 go_enter Try.func73,Try.ntmps73
 go_wp2_with fail
 clear RS
 go_loopw [7,8,13] (fun r' _ i' w'=>∃ (k m:Nat),k≤n∧i' = .int .i64 (k:Int)∧r' = .slice (some ⟨kb,0,none⟩) m cap∧m≤k∧Hid (m=((ks.take k).filter fun k=>!p k).length)∧Hid (Thin w' kb cap k ks ((ks.take k).filter fun k=>!p k))∧Hid (w.grownBy w' (some kb))) (fun _ _ i' _=>n - (intOf i').toNat)
 case atStart=>exact ⟨0,0,Nat.zero_le _,rfl,rfl,Nat.zero_le _,rfl,HTH.out,World.grownBy.refl _ _⟩
 case round =>
  clear HTH
  obtain ⟨k,m,hk,rfl,rfl,hmk,HM,HT,HG⟩:=hrel
  by_cases hlt:k<n
  ·have hltI:(k:Int)<(n:Int):=by omega
   obtain ⟨x,hx⟩:=getElem_lt (show k<ks.length by rw [←En.out];exact hlt)
   have HCL:=hidden (HBT.out wr k x HG.out hx (HT.out.at (Nat.le_refl _) hx))
   have e2:IntKind.i64.wrap ((k:Int)+1)=(k:Int)+1:=wrapI _ (by omega) (by omega)
   have HNX:Hid ((ks.take (k+1)).filter (fun k=>!p k)=(ks.take k).filter (fun k=>!p k)++(if !p x then [x] else [])):=filter_next (fun k=>!p k) ks k x hx
   have HX:=hidden hx
   clear hx
   go_wp2_with fail
   go_at_call 77
   refine HCL.out.mono ?_
   rintro e v2 ⟨rfl,hv2⟩
   have HG2:Hid (w.grownBy v2 (some kb)):=grow_tr HG.out (Bl.grown hv2 _)
   have HT2:=hidden (HT.out.to hv2)
   clear hv2 HCL HT HG
   cases hp:p x with
   | true =>
    have HN2:Hid ((ks.take (k+1)).filter (fun k=>!p k)=(ks.take k).filter (fun k=>!p k)):=by
     show _=_
     rw [HNX.out,hp];simp
    clear HNX hp
    go_wp2
    go_roundw
    case measure=>simp [intOf];omega
    case rel=>exact ⟨k+1,m,by omega,by simp,rfl,by omega,by show _=_;rw [HN2.out];exact HM.out,by show Thin _ _ _ _ _ _;rw [HN2.out];exact HT2.out.skip,HG2.out⟩
   | false =>
    have HN2:Hid ((ks.take (k+1)).filter (fun k=>!p k)=(ks.take k).filter (fun k=>!p k)++[x]):=by
     show _=_
     rw [HNX.out,hp];simp
    have hat:=HT2.out.at (Nat.le_refl _) HX.out
    obtain ⟨q0,q1,q2,q3,q4,q5,q6,q7⟩:=And.intro hat.c0 (And.intro hat.c1 (And.intro hat.c2 (And.intro hat.c3 (And.intro hat.c4 (And.intro hat.c5 (And.intro hat.c6 hat.c7))))))
    obtain ⟨cur,t1,t2,t3,t4⟩:=HT2.out.ex
    have HMP:Hid (Thin (((v2.alloc (.cells (ctC x).toArray 114))).setRow kb (cur.toList.take (m*8)++ctC x++cur.toList.drop (m*8+(ctC x).length)).toArray) kb cap (k+1) ks ((ks.take k).filter (fun k=>!p k)++[x])):=by
     have:=Thin.put (w:=v2.alloc (.cells (ctC x).toArray 114)) (c:=x) (fs:=(ks.take k).filter (fun k=>!p k)) (heap_alloc_old v2 _ (Array.getElem?_eq_some_iff.1 t1).1 |>.trans t1) t2 t3 t4 (by rw [←HM.out];exact hmk) (by omega)
     rw [←HM.out] at this
     exact this
    have HG3:Hid (w.grownBy (((v2.alloc (.cells (ctC x).toArray 114))).setRow kb (cur.toList.take (m*8)++ctC x++cur.toList.drop (m*8+(ctC x).length)).toArray) (some kb)) :=
     grow_tr (grow_tr HG2.out (Bl.grown ((Below.refl _ _).alloc (Nat.le_refl _) _) _)) (setRow_grown _ _ _)
    have HT1:Hid ((v2.alloc (.cells (ctC x).toArray 114)).heap[kb]?=some (.cells cur 114 (0,0))):=(heap_alloc_old v2 _ (Array.getElem?_eq_some_iff.1 t1).1).trans t1
    have HFT:Hid (m*8+(ctC x).length≤cur.size):=by show _≤_;rw [t2,ctC_len];omega
    have HNW:Hid (∀ j u,(ctC x)[j]?=some u→(v2.alloc (.cells (ctC x).toArray 114)).cell? ((⟨v2.heap.size,0,none⟩:Addr).add j)=some u):=fun j u hu=>by
     rw [add0,cell_new rfl,List.getElem?_toArray];exact hu
    clear HNX hp t1 t2 t3 t4 hat HT2 HG2
    have tok:True:=trivial
    go_wp2_with (have _t:=tok;at_builtin;(refine wpList_append_rm _ rfl (.tmp 23) (.tmp 28) 83 rfl 114 ic 8 cutsU HI.out HSI.out kb m cap cur rfl HT1.out ⟨v2.heap.size,0,none⟩ 1 1 (ctC x) rfl rfl HNW.out (one_ctC x) (by omega) HFT.out ?_;clear tok))
    rw [List.append_assoc] at HMP HG3
    go_roundw
    case measure=>simp [intOf];omega
    case rel=>exact ⟨k+1,m+1,by omega,by simp,rfl,by omega,by show _=_;rw [HN2.out,List.length_append,←HM.out];rfl,by show Thin _ _ _ _ _ _;rw [HN2.out];exact HMP.out,HG3.out⟩
  ·have hge:¬ (k:Int)<(n:Int):=by omega
   have HAL:Hid ((ks.take k).filter (fun k=>!p k)=fs):=by
    show _=_
    rw [HFS.out,List.take_of_length_le (by have:=En.out;omega)]
   have HM2:Hid (m=fs.length):=by rw [←HAL.out];exact HM.out
   have HOW:Hid (wr.ownsRow C 114 8 (.slice (some ⟨kb,0,none⟩) m cap) m (flC fs)):=by
    have:=HT.out.own hCk (by rw [←HM.out];omega) hmx
    rw [HAL.out,←HM2.out] at this
    exact this
   clear HT HM
   go_wp2
   go_ret
   exact ⟨m,HM2.out,rfl,HOW.out,HG.out⟩
set_option maxRecDepth 100000 in
set_option maxHeartbeats 8000000 in
theorem unbeaten_any (C:Nat) (w:World) (S:FnS) (Cs:List (List Ct)) (h:FinR w S Cs) (hl:FnLow C S) (hC:C≤w.heap.size) (hcs:HasC Cs) (bb bo:Nat) (c:Ct) (hc:CtAt w bb bo c) (lc:LvIn Cs.length c) (kv:Value) (ks:List Ct) (ho:w.ownsRow C 114 8 kv ks.length (flC ks)) (hbk:some bb≠kv.ownBlock) (lk:∀ k,k ∈ ks→LvIn Cs.length k) (hn:ks.length≤1000000) :
  Calls Try.prog 73 #[.pointer (some ⟨S.fb,0,none⟩),kv,.pointer (some ⟨bb,bo,none⟩)] w fun e w'=>∃ v':Value,e = .returned v'∧Hid (w'.ownsRow C 114 8 v' (ks.filter fun k=>!beatsB (KOf Cs) c.lv k.lv).length (flC (ks.filter fun k=>!beatsB (KOf Cs) c.lv k.lv)))∧Hid (w.grownBy w' kv.ownBlock)∧Hid (v'.ownBlock=kv.ownBlock):=by
 have ho':=ho
 rcases ho'.2 with ⟨rfl,h0⟩ | ⟨kb,cap,cur,rfl,_⟩
 ·have e0:ks=[]:=List.eq_nil_of_length_eq_zero h0
  subst e0
  have RS:∀ wx:World,(Instr.sliceAt 83 (.slice none 0 0) none (some (.int .i64 0)) none).run Try.prog wx = .ok (.slice none 0 0) wx:=fun wx=>cut_none wx
  have HO:=hidden ho
  have hz:¬ (0:Int)<0:=by omega
  generalize S.fb=fb at *
  clear h hl hC hcs hc lc ho ho' hbk lk hn h0
  go_enter Try.func73,Try.ntmps73
  go_wp2_with fail
  clear RS
  go_loopw [7,13] (fun r' i' w'=>r' = .slice none 0 0∧i' = .int .i64 0∧Hid (w'=w)) (fun _ _ _=>0)
  case atStart=>exact ⟨rfl,rfl,rfl⟩
  case round =>
   obtain ⟨rfl,rfl,HW⟩:=hrel
   obtain rfl:=HW.out
   go_wp2
   go_ret
   exact ⟨_,rfl,HO.out,World.grownBy.refl _ _,rfl⟩
 ·refine (unbeaten_some C w S Cs h hl hC hcs bb bo c hc lc kb cap ks ho (fun e=>hbk (by rw [e];rfl)) lk hn).mono ?_
  rintro e w' ⟨m,HM,rfl,HO,HG⟩
  exact ⟨_,rfl,by have:=HO.out;rw [HM.out] at this ⊢;exact this,HG.out,rfl⟩
end Go.Proofs.Ytlaljeobdddegaa
