import Derived.Test.YtlaljeobdddegaaJ38
namespace Go.Proofs.Ytlaljeobdddegaa
open Go.RowKit Mp
def zV (x:Int):Value:=.int .i64 x
theorem app_ints (w:World) {ops:Array Oper} {rest:List Oper} {o:Oper} {a:Act} {Q:Exit→Act→World→Prop} (hgd:o.guard=none) (s x:Operand)
  (ho:o.op = .call { callee:=.builtin .append,args:=#[s,x],argTypes:=#[24,24] })
  (base:Nat) (v:Value) (n:Nat) (xs:List Value) (hs:a.eval s=v) (hown:w.ownsRow base 3 1 v n xs)
  (la:Option Addr) (lc:Nat) (l:List Int) (hx:a.eval x = .slice la l.length lc) (hb:RowAt w.heap.size w la 1 (l.map intC)) (hnil:la=none→lc=0)
  (hn:n+l.length≤1000000000000) (hbase:base≤w.heap.size)
  (h:∀ v' w',w'.ownsRow base 3 1 v' (n+l.length) (xs++l.map zV)→w.grownBy w' v.ownBlock→(l≠[]∨la=none→v'.ownBlock=v.ownBlock∨v'.ownBlock=some w.heap.size)→wpList Try.prog ops Q rest (a.put o.dst v') w') :
  wpList Try.prog ops Q (o :: rest) a w:=by
 obtain ⟨i,hi,hz,hsz,hby⟩:=info_n
 by_cases hne:l=[]
 ·subst hne
  cases la with
  | none =>
   have e:=hnil rfl
   subst e
   refine wpList_plain hgd fun K hK=>?_
   have hr:=run_append_owned_none (P:=Try.prog) w base 24 o.type 3 i 1 ints_u hi v n xs hown
   unfold Oper.wp execOp
   have hx':a.eval x = .slice none 0 0:=hx
   simp only [ho,resolve,invoke,builtin,Sem.run_bind,Sem.run_pure,Result.andThen_ok,List.map_toArray,List.map_cons,List.map_nil,hs,hx',hr]
   exact hK _ _ (h v w (by simpa using hown) (World.grownBy.refl _ _) (fun _=>Or.inl rfl))
  | some ad =>
   refine wpList_append_own_at w hgd s x 24 ho base 3 i _ 1 8 ints_u hi hz hsz hby rfl (by decide) v n xs hs hown ad 0 lc [] hx (by simp) (fun j u hu=>by simp at hu) (fun u hu=>by simp at hu) (by simp only [maxLen];omega) (by omega) hbase ?_
   intro v' w' h1 h2 _ _
   exact h v' w' (by simpa using h1) h2 (fun e=>by
    rcases e with e | e
    ·exact absurd rfl e
    ·cases e)
 ·obtain ⟨b,off,hbo,_,_⟩:=hb (by simpa using hne)
  subst hbo
  refine wpList_append_lies w hgd s x 24 ho base 3 i _ 1 8 ints_u hi hz hsz hby rfl (by decide) v n xs hs hown ⟨b,off,none⟩ l.length lc (l.map zV) hx (by simp) ?_ ?_ (List.length_pos_iff.2 hne) (by simp only [maxLen];omega) (by omega) hbase _ rfl ?_
  ·intro j u hu
   rw [List.getElem?_map] at hu
   cases hl:l[j]? with
   | none=>rw [hl] at hu;cases hu
   | some y =>
    rw [hl] at hu
    have e:Value.int .i64 y=u:=by simpa [zV] using hu
    subst e
    obtain ⟨b',o',e3,_,hc⟩:=hb.intR hl
    simp only [Option.some.injEq,Addr.mk.injEq,and_true] at e3
    obtain ⟨rfl,rfl⟩:=e3
    rw [addL];exact hc
  ·intro u hu
   obtain ⟨y,_,rfl⟩:=List.mem_map.1 hu
   rfl
  ·intro g cap w' h1 h2 h3 _
   refine h _ w' h1 h2 (fun _=>?_)
   rcases h3 with h3 | h3
   ·exact Or.inl h3.symm
   ·exact Or.inr (by rw [h3];rfl)
def endL (G:GrD):List Int:=G.outs++G.lats.map LatD.next
set_option maxRecDepth 100000 in
set_option maxHeartbeats 8000000 in
theorem ends_any (B:Nat) (w:World) (gb:Nat) (S:GrS) (G:GrD) (ni n:Nat) (hF:FineG G ni n) (h:GIn B w gb S G) (hnil:S.a3=none→S.c3=0) :
  Calls Try.prog 41 #[.pointer (some ⟨gb,0,none⟩)] w fun e w'=>∃ v,e = .returned v∧Hid (w'.ownsRow w.heap.size 3 1 v (endL G).length ((endL G).map zV))∧Hid (Bl w w'):=by
 have c3:=h.bx.c3
 have HG:Hid (∀ v:World,Bl w v→GIn B v gb S G):=fun v hv=>h.to (hv.mono h.le)
 have HR3:=hidden (h.at_.o.mono h.le)
 obtain ⟨a1,Ea1⟩:=exh S.a1
 have HRW:Hid (∀ v:World,Bl w v→∀ (k:Nat) (d:LatD),G.lats[k]?=some d→∃ b o,a1=some ⟨b,o,none⟩∧b<w.heap.size∧v.cell? ⟨b,o+k*2,none⟩=some (.int .i64 d.next)∧v.cell? ⟨b,o+k*2+1,none⟩=some (.bool d.init)):=fun v hv k d hd=>by
  obtain ⟨b,o,h1,h2,h3⟩:=(HG.out v hv).at_.l.el hd
  exact ⟨b,o,Ea1.out.trans h1,Nat.lt_of_lt_of_le h2 h.le,h3 0 _ rfl,h3 1 _ rfl⟩
 have hlo:=hF.lo
 have hll:=hF.ll
 obtain ⟨nl,Enl⟩:=exh G.lats.length
 obtain ⟨no,Eno⟩:=exh G.outs.length
 rw [←Enl.out] at hll
 rw [←Eno.out] at hlo c3
 have HNL:=hidden hnil
 clear h hF hnil
 go_enter Try.func41,Try.ntmps41
 have tok:True:=trivial
 go_upto_region 2 with (have _t:=tok;at_builtin;(refine app_ints _ rfl (.const (.slice none 0 0)) (.tmp 9) rfl w.heap.size (.slice none 0 0) 0 [] rfl (own_nil _ _ _ _) S.a3 S.c3 G.outs (by rw [←Eno.out];rfl) HR3.out HNL.out (by rw [←Eno.out];omega) (Nat.le_refl _) ?_;intro v1 w1 hown hgrow _;have HO1:=hidden hown;have HB1:Hid (Bl w w1):=none_below hgrow;clear tok hown hgrow))
 have c1:=(HG.out w1 HB1.out).bx.c1
 rw [←Enl.out,←Ea1.out] at c1
 clear c3
 go_wp2_with fail
 clear c1
 go_loopw [3,5,16] (fun v' _ i' w'=>∃ k:Nat,k≤nl∧i' = .int .i64 (k:Int)∧Hid (w'.ownsRow w.heap.size 3 1 v' (no+k) ((G.outs++(G.lats.take k).map LatD.next).map zV))∧Hid (Bl w w')) (fun _ _ i' _=>nl - (intOf i').toNat)
 case atStart=>exact ⟨0,Nat.zero_le _,rfl,(by have:=HO1.out;rw [←Eno.out,Nat.zero_add] at this;show World.ownsRow _ _ _ _ _ _ _;simpa using this),HB1.out⟩
 case round =>
  clear HO1 HB1
  obtain ⟨k,hk,rfl,HO,HB⟩:=hrel
  by_cases hlt:k<nl
  ·have hltI:(k:Int)<(nl:Int):=by omega
   obtain ⟨d,hd⟩:=getElem_lt (show k<G.lats.length by rw [←Enl.out];exact hlt)
   obtain ⟨b,o,ea,hbw,cx,cy⟩:=HRW.out wr HB.out k d hd
   have e2:IntKind.i64.wrap ((k:Int)+1)=(k:Int)+1:=wrapI _ (by omega) (by omega)
   have HNX:Hid (G.outs++(G.lats.take (k+1)).map LatD.next=(G.outs++(G.lats.take k).map LatD.next)++[d.next]):=by
    show _=_
    rw [take_next _ _ _ hd,List.map_append,←List.append_assoc];rfl
   obtain ⟨xb,Exb⟩:=exh wr.heap.size
   obtain ⟨w2,Ew2⟩:=exh (wr.alloc (.cells #[.int .i64 d.next,.bool d.init] 45))
   have HB2:Hid (Bl wr w2):=by rw [Ew2.out];exact (Below.refl _ _).alloc (Nat.le_refl _) _
   have HCX:Hid ((w2.alloc (.cells #[.int .i64 d.next] 3)).cell? ⟨xb+1,0,none⟩=some (.int .i64 d.next)):=by
    have e:xb+1=w2.heap.size:=by rw [Ew2.out,Exb.out];simp
    show _=_
    rw [e,cell_new rfl];rfl
   have HO2:=hidden (own_below HO.out HB2.out)
   have HBW:Hid (Bl w w2):=Bl.tr HB.out HB2.out
   have hsz:w.heap.size≤w2.heap.size+1:=by have:=HBW.out.size;omega
   subst ea
   clear hd HO HB
   have tok:True:=trivial
   go_wp2_with (have _t:=tok;at_builtin;(rw [←Exb.out,←Ew2.out];refine app_int _ rfl (.tmp 20) (.tmp 23) rfl w.heap.size u3 (no+k) _ rfl (HO2.out.alloc _) ⟨xb+1,0,none⟩ d.next rfl HCX.out (by omega) (by simpa using hsz) ?_;intro g6 c6 w6 hown hgrow _;have HB6:=hidden (app_bl HBW.out (own_newB HO2.out) hgrow);have HO6:=hidden hown;clear tok hown hgrow))
   go_roundw
   case measure=>simp [intOf];omega
   case rel=>exact ⟨k+1,by omega,by simp,by rw [HNX.out,List.map_append,←Nat.add_assoc];exact HO6.out,HB6.out⟩
  ·have hge:¬ (k:Int)<(nl:Int):=by omega
   have HOF:Hid (wr.ownsRow w.heap.size 3 1 u3 (endL G).length ((endL G).map zV)):=by
    have:=HO.out
    rw [List.take_of_length_le (by have:=Enl.out;omega)] at this
    unfold endL
    rw [List.length_append,List.length_map,←Eno.out,←Enl.out]
    have e:nl=k:=by omega
    rw [e];exact this
   clear HO
   go_wp2
   go_ret
   exact ⟨u3,rfl,HOF.out,HB.out⟩
end Go.Proofs.Ytlaljeobdddegaa

namespace Go.Proofs.Ytlaljeobdddegaa
open Go.RowKit Mp
def tabL {α:Type} (m:Nat) (f:Nat→α):List α:=(List.range m).map f
theorem tabL_len {α:Type} (m:Nat) (f:Nat→α):(tabL m f).length=m:=by simp [tabL]
theorem tabL_get {α:Type} {m:Nat} {f:Nat→α} {i:Nat} (h:i<m):(tabL m f)[i]?=some (f i):=by
 unfold tabL;rw [List.getElem?_map,List.getElem?_range h];rfl
def upd {α:Type} (f:Nat→α) (i:Nat) (v:α):Nat→α:=fun j=>if j=i then v else f j
theorem upd_same {α:Type} (f:Nat→α) (i:Nat) (v:α):upd f i v i=v:=by simp [upd]
theorem upd_ne {α:Type} {f:Nat→α} {i j:Nat} {v:α} (h:j≠i):upd f i v j=f j:=by simp [upd,h]
theorem tabL_set {α:Type} (m:Nat) (f:Nat→α) (i:Nat) (v:α):(tabL m f).set i v=tabL m (upd f i v):=by
 apply List.ext_getElem?
 intro k
 by_cases hk:k<m
 ·rw [tabL_get hk]
  by_cases e:i=k
  ·subst e
   rw [List.getElem?_set_self (by rw [tabL_len];exact hk),upd_same]
  ·rw [List.getElem?_set_ne e,tabL_get hk,upd_ne (fun h=>e h.symm)]
 ·rw [List.getElem?_eq_none (by rw [List.length_set,tabL_len];omega),List.getElem?_eq_none (by rw [tabL_len];omega)]
theorem tab_get {m:Nat} {f:Nat→Value} {i:Nat} (h:i<m):(tabL m f).toArray[i]?=some (f i):=by
 rw [List.getElem?_toArray,tabL_get h]
theorem tab_set {m:Nat} {f:Nat→Value} {i:Nat} {v:Value}:(tabL m f).toArray.setIfInBounds i v=(tabL m (upd f i v)).toArray:=by
 rw [List.setIfInBounds_toArray,tabL_set]
structure ChS where
 cb:Nat
 fb:Nat
 pb:Nat
 ub:Nat
 N:Nat
 F:Nat
structure ChAt (w:World) (D:ChS) (U:Nat→Nat) (gv lv ev bv:Value):Prop where
 bk:Blk w D.cb 89 #[.pointer (some ⟨D.fb,0,none⟩),.int .i64 (D.F:Nat),.slice (some ⟨D.pb,0,none⟩) D.N D.N,.slice (some ⟨D.ub,0,none⟩) D.N D.N,gv,lv,ev,bv]
 pr:∃ f:Nat→Int,Blk w D.pb 3 (tabL D.N fun v=>.int .i64 (f v)).toArray
 un:Blk w D.ub 3 (tabL D.N fun v=>.int .i64 (U v:Nat)).toArray
 ne:D.cb≠D.ub∧D.pb≠D.ub∧D.cb≠D.pb
theorem ChAt.to {w w':World} {D:ChS} {U:Nat→Nat} {gv lv ev bv:Value} (h:ChAt w D U gv lv ev bv) (hb:Bl w w'):ChAt w' D U gv lv ev bv:=by
 obtain ⟨f,hf⟩:=h.pr
 exact ⟨h.bk.below hb,⟨f,hf.below hb⟩,h.un.below hb,h.ne⟩
theorem own_num {w:World} {C:Nat} {v:Value} {n:Nat} {l:List Nat} (h:w.ownsRow C 3 1 v n (l.map nV)):∃ a c,v = .slice a n c∧n=l.length∧NumR w a l∧(l=[]→a=none∧c=0∨∃ g,a=some ⟨g,0,none⟩):=by
 have hl:n=l.length:=by have:=h.1;simp at this;omega
 rcases h.2 with ⟨rfl,h0⟩ | ⟨g,cap,cur,rfl,_,hg,_,_,h3,h4⟩
 ·subst h0
  exact ⟨none,0,rfl,hl,fun k y hy=>by rw [List.eq_nil_of_length_eq_zero hl.symm] at hy;simp at hy,fun _=>Or.inl ⟨rfl,rfl⟩⟩
 ·refine ⟨some ⟨g,0,none⟩,cap,rfl,hl,fun k y hy=>⟨g,0,rfl,?_⟩,fun _=>Or.inr ⟨g,rfl⟩⟩
  have hk:=(List.getElem?_eq_some_iff.1 hy).1
  have h5:(l.map nV)[k]?=some (nV y):=by rw [List.getElem?_map,hy];rfl
  rw [←h4,List.getElem?_take_of_lt (by omega),Array.getElem?_toList] at h5
  rw [Nat.zero_add]
  simp [World.cell?,hg,h5,nV]
def needU (U:Nat→Nat) (v t:Nat):Nat→Nat:=if U v=0∨t<U v then upd U v t else U
theorem upd_nat (U:Nat→Nat) (v t:Nat):upd (fun v=>Value.int .i64 ((U v:Nat):Int)) v (.int .i64 (t:Nat))=fun u=>Value.int .i64 ((upd U v t u:Nat):Int):=by
 funext u;unfold upd;split <;> rfl
set_option maxRecDepth 100000 in
set_option maxHeartbeats 8000000 in
theorem costs_any (w:World) (D:ChS) (U:Nat→Nat) (gv lv ev bv:Value) (h:ChAt w D U gv lv ev bv) (b o:Nat) (c:Ct) (hc:CtAt w b o c) (h4:c.lv.length≤4) (htb:c.tb<65536) (hlv:∀ u,u ∈ c.lv→u<D.N) :
  Calls Try.prog 59 #[.pointer (some ⟨D.cb,0,none⟩),.pointer (some ⟨b,o,none⟩)] w fun e w'=>(∃ z:Int,e = .returned (.int .i64 z))∧Bl w w':=by
 have WT:=hidden (weighty_any w b o c hc h4 htb)
 have HCL:Hid (∀ v:World,Bl w v→∀ (k x:Nat),c.lv[k]?=some x→v.cell? ⟨b,o+k,none⟩=some (.int .i64 (x:Nat))):=fun v hv k x hx=>(hc.to hc.lt hv).leaf h4 hx
 have HCH:Hid (∀ v:World,Bl w v→v.cell? ⟨D.cb,3,none⟩=some (.slice (some ⟨D.ub,0,none⟩) D.N D.N)∧v.cell? ⟨D.cb,2,none⟩=some (.slice (some ⟨D.pb,0,none⟩) D.N D.N)):=fun v hv=>⟨(h.to hv).bk.cell (i:=3) rfl,(h.to hv).bk.cell (i:=2) rfl⟩
 have HUN:Hid (∀ v:World,Bl w v→∀ u,u<D.N→v.cell? ⟨D.ub,u,none⟩=some (.int .i64 (U u:Nat))):=fun v hv u hu=>(h.to hv).un.cell (tab_get hu)
 have HPR:Hid (∀ v:World,Bl w v→∀ u,u<D.N→∃ z:Int,v.cell? ⟨D.pb,u,none⟩=some (.int .i64 z)):=fun v hv u hu=>by
  obtain ⟨f,hf⟩:=(h.to hv).pr
  exact ⟨f u,hf.cell (tab_get hu)⟩
 have HLV:=hidden hlv
 have HWL:Hid (∀ p,p ∈ wtyL c→p<c.lv.length):=wtyL_lt
 have HW4:Hid ((wtyL c).length≤4):=Nat.le_trans (wtyL_len c) h4
 generalize D.cb=cb at *
 generalize D.ub=ub at *
 generalize D.pb=pb at *
 generalize D.N=N at *
 generalize wtyL c=ps at *
 clear h hc htb hlv
 go_enter Try.func59,Try.ntmps59
 go_wp2_with fail
 go_at_call 60
 refine WT.out.mono ?_
 rintro e w1 ⟨v1,rfl,HO1,HB1⟩
 obtain ⟨la,lc,ev1,hn1,hnr,_⟩:=own_num HO1.out
 subst ev1
 have HNR:=hidden hnr
 obtain ⟨n,En⟩:=exh ps.length
 rw [←En.out]
 have hn4:n≤4:=by rw [En.out];exact HW4.out
 clear hnr hn1 WT HO1
 go_wp2_with fail
 go_loopw [5,7,8,12] (fun s' _ _ i' w'=>∃ (k:Nat) (z:Int),k≤n∧i' = .int .i64 (k:Int)∧s' = .int .i64 z∧Hid (w'=w1)) (fun _ _ _ i' _=>n - (intOf i').toNat)
 case atStart=>exact ⟨0,0,Nat.zero_le _,rfl,rfl,rfl⟩
 case round =>
  obtain ⟨k,z,hk,rfl,rfl,HW⟩:=hrel
  obtain rfl:=HW.out
  clear HW
  by_cases hlt:k<n
  ·have hltI:(k:Int)<(n:Int):=by omega
   obtain ⟨p,hp⟩:=getElem_lt (show k<ps.length by rw [←En.out];exact hlt)
   obtain ⟨b',o',ea,cx⟩:=HNR.out k p hp
   have hpl:=HWL.out p (List.mem_of_getElem? hp)
   obtain ⟨u,hu⟩:=getElem_lt hpl
   have cu:=HCL.out wr HB1.out p u hu
   have huN:=HLV.out u (List.mem_of_getElem? hu)
   have huI:(u:Int)<(N:Int):=by omega
   obtain ⟨d3,d2⟩:=HCH.out wr HB1.out
   have du:=HUN.out wr HB1.out u huN
   obtain ⟨z2,dp⟩:=HPR.out wr HB1.out u huN
   have e2:IntKind.i64.wrap ((k:Int)+1)=(k:Int)+1:=wrapI _ (by omega) (by omega)
   have hp4:(p:Int)<4:=by omega
   obtain ⟨x,Ex⟩:=exh (U u)
   rw [←Ex.out] at du
   subst ea
   clear hp hu hpl
   by_cases h0:x=0
   ·subst h0
    go_wp2
    go_roundw
    case measure=>simp [intOf];omega
    case rel=>exact ⟨k+1,_,by omega,by simp,rfl,True.intro⟩
   ·have h0I:¬ (x:Int)=0:=by omega
    go_wp2
    go_roundw
    case measure=>simp [intOf];omega
    case rel=>exact ⟨k+1,z,by omega,by simp,rfl,True.intro⟩
  ·have hge:¬ (k:Int)<(n:Int):=by omega
   go_wp2
   go_ret
   exact ⟨⟨z,rfl⟩,HB1.out⟩
set_option maxRecDepth 100000 in
set_option maxHeartbeats 8000000 in
theorem need_any (w:World) (D:ChS) (U:Nat→Nat) (gv lv ev bv:Value) (h:ChAt w D U gv lv ev bv) (v t:Nat) (hv:v<D.N) :
  Calls Try.prog 61 #[.pointer (some ⟨D.cb,0,none⟩),.int .i64 (v:Nat),.int .i64 (t:Nat)] w fun e w'=>(∃ x,e = .returned x)∧Hid (ChAt w' D (needU U v t) gv lv ev bv)∧Hid (But D.ub w w'):=by
 have c3:w.cell? ⟨D.cb,3,none⟩=some (.slice (some ⟨D.ub,0,none⟩) D.N D.N):=h.bk.cell (i:=3) rfl
 have cu:w.cell? ⟨D.ub,v,none⟩=some (.int .i64 (U v:Nat)):=h.un.cell (tab_get hv)
 have fu:=h.un.frozen v
 have HNS:Hid (ChAt (w.setCell ⟨D.ub,v,none⟩ (.int .i64 (t:Nat))) D (upd U v t) gv lv ev bv):=by
  have hb:=But.set D.ub v w (.int .i64 (t:Nat))
  obtain ⟨f,hf⟩:=h.pr
  refine ⟨hb.blk h.bk h.ne.1,⟨f,hb.blk hf h.ne.2.1⟩,?_,h.ne⟩
  have:=h.un.set v (.int .i64 (t:Nat))
  rw [tab_set,upd_nat] at this
  exact this
 have HBT:Hid (But D.ub w (w.setCell ⟨D.ub,v,none⟩ (.int .i64 (t:Nat)))):=But.set _ _ _ _
 have HCH:=hidden h
 have hvI:(v:Int)<(D.N:Int):=by omega
 obtain ⟨x,Ex⟩:=exh (U v)
 rw [←Ex.out] at cu
 have HN1:Hid (x=0∨t<x→needU U v t=upd U v t):=fun hh=>by unfold needU;rw [←Ex.out,if_pos hh]
 have HN2:Hid (¬ (x=0∨t<x)→needU U v t=U):=fun hh=>by unfold needU;rw [←Ex.out,if_neg hh]
 clear h
 by_cases h0:x=0
 ·have HN3:=hidden (HN1.out (Or.inl h0))
  clear HN1 HN2
  subst h0
  go_enter Try.func61,Try.ntmps61
  go_wp2
  go_end0
  exact ⟨⟨_,rfl⟩,by rw [HN3.out];exact HNS.out,HBT.out⟩
 ·have h0I:¬ (x:Int)=0:=by omega
  by_cases hlt:t<x
  ·have hltI:(t:Int)<(x:Int):=by omega
   have HN3:=hidden (HN1.out (Or.inr hlt))
   clear HN1 HN2
   go_enter Try.func61,Try.ntmps61
   go_wp2
   go_end0
   exact ⟨⟨_,rfl⟩,by rw [HN3.out];exact HNS.out,HBT.out⟩
  ·have hltI:¬ (t:Int)<(x:Int):=by omega
   have HN3:=hidden (HN2.out (fun hh=>by omega))
   clear HN1 HN2
   go_enter Try.func61,Try.ntmps61
   go_wp2
   go_end0
   exact ⟨⟨_,rfl⟩,by rw [HN3.out];exact HCH.out,But.refl _ _⟩
end Go.Proofs.Ytlaljeobdddegaa

namespace Go.Proofs.Ytlaljeobdddegaa
open Go.RowKit Mp
def FaV (a b:Value):Prop:=∀ k,a.ownBlock=some k→b.ownBlock≠some k
theorem FaV.symm {a b:Value} (h:FaV a b):FaV b a:=fun k hk e=>h k e hk
theorem FaV.or {a b:Value} (h:FaV a b):b.ownBlock=none∨b.ownBlock≠a.ownBlock:=by
 cases e:b.ownBlock with
 | none=>exact Or.inl rfl
 | some k=>exact Or.inr (fun e2=>h k e2.symm e)
theorem FaV.new {w:World} {a a' b:Value} {C e sz n:Nat} {xs:List Value} (h:FaV a b) (hb:w.ownsRow C e sz b n xs) {s:Nat} (hs:w.heap.size≤s) (hp:a'.ownBlock=a.ownBlock∨a'.ownBlock=some s):FaV a' b:=fun k hk e2=>by
 rcases hp with hp | hp
 ·exact h k (by rw [←hp];exact hk) e2
 ·have:=own_lt hb k e2
  rw [hp] at hk
  injection hk with hk
  omega
theorem FaV.nil (b:Value):FaV (.slice none 0 0) b:=fun k hk=>by cases hk
theorem place_of {a:Value} {g n cap H:Nat} (h:a.ownBlock=some g∨g=H):(Value.slice (some ⟨g,0,none⟩) n cap).ownBlock=a.ownBlock∨(Value.slice (some ⟨g,0,none⟩) n cap).ownBlock=some H:=by
 rcases h with h | h
 ·exact Or.inl h.symm
 ·exact Or.inr (by rw [h];rfl)
structure CvAt (C:Nat) (w:World) (D:ChS) (U:Nat→Nat) (gs:List Nat) (Ls:List (List Nat)) (bs:List Nat) (gv lv ev bv:Value):Prop where
 ch:ChAt w D U gv lv ev bv
 og:w.ownsRow C 3 1 gv gs.length (gs.map nV)
 ol:w.ownsRow C 3 1 lv Ls.flatten.length (Ls.flatten.map nV)
 oe:w.ownsRow C 3 1 ev Ls.length ((endsL Ls).map nV)
 ob:w.ownsRow C 3 1 bv bs.length (bs.map nV)
 f1:FaV gv lv
 f2:FaV gv ev
 f3:FaV gv bv
 f4:FaV lv ev
 f5:FaV lv bv
 f6:FaV ev bv
 lt:D.cb<C∧D.pb<C∧D.ub<C
 le:C≤w.heap.size
theorem CvAt.to {C:Nat} {w w':World} {D:ChS} {U:Nat→Nat} {gs:List Nat} {Ls:List (List Nat)} {bs:List Nat} {gv lv ev bv:Value} (h:CvAt C w D U gs Ls bs gv lv ev bv) (hb:Bl w w'):CvAt C w' D U gs Ls bs gv lv ev bv :=
 ⟨h.ch.to hb,own_below h.og hb,own_below h.ol hb,own_below h.oe hb,own_below h.ob hb,h.f1,h.f2,h.f3,h.f4,h.f5,h.f6,h.lt,Nat.le_trans h.le hb.size⟩
theorem ChAt.cell4 {w w':World} {D:ChS} {U:Nat→Nat} {gv lv ev bv gv' lv' ev' bv':Value} (h:ChAt w D U gv lv ev bv) (hbk:Blk w' D.cb 89 #[.pointer (some ⟨D.fb,0,none⟩),.int .i64 (D.F:Nat),.slice (some ⟨D.pb,0,none⟩) D.N D.N,.slice (some ⟨D.ub,0,none⟩) D.N D.N,gv',lv',ev',bv']) (hb:∀ k,k<w.heap.size→k=D.pb∨k=D.ub→w'.heap[k]?=w.heap[k]?):ChAt w' D U gv' lv' ev' bv':=by
 obtain ⟨f,hf⟩:=h.pr
 exact ⟨hbk,⟨f,(hb _ hf.lt (Or.inl rfl)).trans hf⟩,(hb _ h.un.lt (Or.inr rfl)).trans h.un,h.ne⟩
def AddP (C:Nat) (w w':World) (cb:Nat) (x0 x1 x2 x3 x4 x7 av ev:Value) (Ls:List (List Nat)) (t:TypeId) (ls:List Nat) (e:Ending):Prop:=∃ av' ev',(∃ v,e = .returned v)∧Hid (Blk w' cb t #[x0,x1,x2,x3,x4,av',ev',x7])∧Hid (w'.ownsRow C 3 1 av' (Ls++[ls]).flatten.length ((Ls++[ls]).flatten.map nV))∧Hid (w'.ownsRow C 3 1 ev' (Ls++[ls]).length ((endsL (Ls++[ls])).map nV))∧Hid (FaV av' ev')∧Hid (∀ x:Nat,x<w.heap.size→x≠cb→some x≠av.ownBlock→some x≠ev.ownBlock→w'.heap[x]?=w.heap[x]?)∧Hid (∃ s1 s2,w.heap.size≤s1∧w.heap.size≤s2∧(av'.ownBlock=av.ownBlock∨av'.ownBlock=some s1)∧(ev'.ownBlock=ev.ownBlock∨ev'.ownBlock=some s2))∧Hid (w.heap.size≤w'.heap.size∧w'.os=w.os∧w'.tape=w.tape∧w'.output=w.output)
set_option maxRecDepth 100000 in
set_option maxHeartbeats 8000000 in
theorem addI_any (C:Nat) (w:World) (cb:Nat) (x0 x1 x2 x3 x4 x7 av ev:Value) (Ls:List (List Nat)) (t:TypeId) (hbk:Blk w cb t #[x0,x1,x2,x3,x4,av,ev,x7]) (hfC:cb<C) (hC:C≤w.heap.size) (oa:w.ownsRow C 3 1 av Ls.flatten.length (Ls.flatten.map nV)) (oe:w.ownsRow C 3 1 ev Ls.length ((endsL Ls).map nV)) (hfa:FaV av ev) (la:Option Addr) (c:Nat) (ls:List Nat) (hcs:NumR w la ls) (hbl:∀ b o,la=some ⟨b,o,none⟩→b<w.heap.size) (hnil:ls=[]→la=none∧c=0) (hn1:Ls.length+1≤1000000) (hn2:Ls.flatten.length+ls.length≤100000000) :
  Calls Try.prog 62 #[.pointer (some ⟨cb,5,none⟩),.slice la ls.length c] w fun e w'=>AddP C w w' cb x0 x1 x2 x3 x4 x7 av ev Ls t ls e:=by
 have z0:w.cell? ⟨cb,5,none⟩=some av:=hbk.cell (i:=5) rfl
 have HBK:=hidden hbk
 have HOA:=hidden oa
 have HOE:=hidden oe
 have HFA:=hidden hfa
 have HRW:Hid (RowAt w.heap.size w la 1 ((ls.map (fun x:Nat=>(x:Int))).map intC)):=fun hne=>by
  have hp:ls≠[]:=fun e=>hne (by rw [e];rfl)
  obtain ⟨x,hx⟩:=getElem_lt (List.length_pos_iff.2 hp)
  obtain ⟨b,o,e,_⟩:=hcs 0 x hx
  refine ⟨b,o,e,hbl b o e,fun i el hi j v hv=>?_⟩
  rw [List.getElem?_map,List.getElem?_map] at hi
  cases hl:ls[i]? with
  | none=>rw [hl] at hi;cases hi
  | some y =>
   rw [hl] at hi
   have e2:intC (y:Int)=el:=by simpa using hi
   rw [←e2] at hv
   obtain ⟨b',o',e',hc⟩:=hcs i y hl
   rw [e] at e'
   obtain ⟨rfl,rfl⟩:=ad_inj e'
   cases j with
   | zero =>
    obtain rfl:=Option.some.inj hv
    rw [Nat.mul_one,Nat.add_zero];exact hc
   | succ j=>simp [intC] at hv
 have HNI:Hid (la=none→c=0):=fun e=>by
  by_cases h:ls=[]
  ·exact (hnil h).2
  ·obtain ⟨x,hx⟩:=getElem_lt (List.length_pos_iff.2 h)
   obtain ⟨b,o,e',_⟩:=hcs 0 x hx
   rw [e] at e';cases e'
 have HPL:Hid ((ls.map (fun x:Nat=>(x:Int)))≠[]∨la=none):=by
  by_cases h:ls=[]
  ·exact Or.inr (hnil h).1
  ·exact Or.inl (fun e=>h (List.map_eq_nil_iff.1 e))
 have HMP:Hid ((ls.map (fun x:Nat=>(x:Int))).map zV=ls.map nV):=by
  show _=_
  rw [List.map_map];rfl
 have HLN:Hid ((ls.map (fun x:Nat=>(x:Int))).length=ls.length):=List.length_map _
 have HNE2:Hid (some cb≠av.ownBlock∧some cb≠ev.ownBlock):=⟨fun e=>by have:=own_newB HOA.out cb e.symm;omega,fun e=>by have:=own_newB HOE.out cb e.symm;omega⟩
 obtain ⟨n,En⟩:=exh ls.length
 obtain ⟨N,EN⟩:=exh Ls.flatten.length
 rw [←En.out]
 clear hcs hbk oa oe hfa hnil hbl
 go_enter Try.func62,Try.ntmps62
 have tok:True:=trivial
 go_upto_region 1 with (have _t:=tok;at_builtin;(refine app_ints _ rfl (.tmp 8) (.tmp 9) rfl C av N _ rfl (by rw [EN.out];exact HOA.out) la c (ls.map (fun x:Nat=>(x:Int))) (by rw [HLN.out,←En.out];rfl) HRW.out HNI.out (by rw [EN.out,HLN.out];omega) hC ?_;intro v2 w2 hown hgrow hplace;rw [HMP.out,HLN.out] at hown;obtain ⟨a2,c2,hv2,-,-,-⟩:=own_num (l:=Ls.flatten++ls) (by rw [List.map_append];exact hown);subst hv2;have HO2:=hidden hown;have HG2:=hidden hgrow;have HP2:=hidden (hplace HPL.out);have HB2:=hidden (blk_kept HBK.out hgrow HNE2.out.1);have y0:w2.cell? ⟨cb,5,none⟩=some av:=HB2.out.cell (i:=5) rfl;have f0:=HB2.out.frozen 5;clear tok hown hgrow hplace))
 obtain ⟨w3,Ew3⟩:=exh (w2.setCell ⟨cb,5,none⟩ (.slice a2 (N+ls.length) c2))
 have HB3:Hid (Blk w3 cb t #[x0,x1,x2,x3,x4,.slice a2 (N+ls.length) c2,ev,x7]):=by rw [Ew3.out];exact HB2.out.set 5 _
 rw [←Ew3.out]
 obtain ⟨N2,EN2⟩:=exh (N+ls.length)
 rw [←EN2.out] at HB3 HO2 HP2
 rw [←EN2.out]
 have q0:w3.cell? ⟨cb,5,none⟩=some (.slice a2 N2 c2):=HB3.out.cell (i:=5) rfl
 have q1:w3.cell? ⟨cb,6,none⟩=some ev:=HB3.out.cell (i:=6) rfl
 have q1d:w3.drew.cell? ⟨cb,6,none⟩=some ev:=q1
 have hfl:=HB3.out.lt
 have HG3:Hid (w2.grownBy w3 (some cb)):=by rw [Ew3.out];exact (But.set cb 5 w2 _).grown
 obtain ⟨w4,Ew4⟩:=exh (w3.alloc (.cells #[.int .i64 (N2:Int)] 3)).drew
 have HG4:Hid (Bl w3 w4):=by rw [Ew4.out];exact Below.drew ((Below.refl _ _).alloc (Nat.le_refl _) _)
 have HB4:=hidden (HB3.out.below HG4.out)
 have HOE4:Hid (w4.ownsRow C 3 1 ev Ls.length ((endsL Ls).map nV)):=own_below (own_kept (own_kept HOE.out HG2.out HFA.out.or) HG3.out (new_ne (own_newB HOE.out) hfC)) HG4.out
 have HOA4:Hid (w4.ownsRow C 3 1 (.slice a2 N2 c2) N2 (Ls.flatten.map nV++ls.map nV)):=own_below (own_kept HO2.out HG3.out (new_ne (own_newB HO2.out) hfC)) HG4.out
 have HFA4:Hid (FaV (.slice a2 N2 c2) ev):=HFA.out.new HOE.out (Nat.le_refl _) HP2.out
 have HCL:Hid (w4.cell? ⟨w3.heap.size,0,none⟩=some (.int .i64 (N2:Int))):=by
  show _=_
  rw [Ew4.out]
  show (w3.alloc (.cells #[.int .i64 (N2:Int)] 3)).cell? _=_
  rw [cell_new rfl];rfl
 have HSZ:Hid (w.heap.size≤w4.heap.size):=Nat.le_trans HG2.out.size (Nat.le_trans HG3.out.size HG4.out.size)
 have xa0:w4.cell? ⟨cb,5,none⟩=some (.slice a2 N2 c2):=HB4.out.cell (i:=5) rfl
 have xa1:w4.cell? ⟨cb,6,none⟩=some ev:=HB4.out.cell (i:=6) rfl
 have HR5:Hid (∀ g5 c5 w5,w5.ownsRow C 3 1 (.slice (some ⟨g5,0,none⟩) (Ls.length+1) c5) (Ls.length+1) ((endsL Ls).map nV++[.int .i64 (N2:Int)])→w4.grownBy w5 ev.ownBlock→(ev.ownBlock=some g5∨g5=w4.heap.size)→(Blk w5 cb t #[x0,x1,x2,x3,x4,.slice a2 N2 c2,ev,x7])∧AddP C w (w5.setCell ⟨cb,6,none⟩ (.slice (some ⟨g5,0,none⟩) (Ls.length+1) c5)) cb x0 x1 x2 x3 x4 x7 av ev Ls t ls (.returned (.tuple #[]))):=by
  intro g5 c5 w5 hown hgrow hplace
  have hb5:=blk_kept HB4.out hgrow HNE2.out.2
  have hg6:=(But.set cb 6 w5 (.slice (some ⟨g5,0,none⟩) (Ls.length+1) c5)).grown
  have hlen:(Ls++[ls]).flatten.length=N2:=by rw [List.flatten_append,List.length_append,EN2.out,EN.out];simp
  have s2:=HG2.out.size
  have s3:=HG3.out.size
  have s4:=HG4.out.size
  have s5:=hgrow.size
  refine ⟨hb5,.slice a2 N2 c2,.slice (some ⟨g5,0,none⟩) (Ls.length+1) c5,⟨_,rfl⟩,hb5.set 6 _,?_,?_,?_,?_,?_,?_⟩
  ·rw [hlen,List.flatten_append,List.map_append]
   have h1:=own_kept HOA4.out hgrow HFA4.out.symm.or
   have h2:=own_kept h1 hg6 (new_ne (own_newB HOA4.out) hfC)
   show World.ownsRow _ _ _ _ _ _ _
   simpa using h2
  ·rw [endsL_snoc,List.map_append,List.length_append,←EN.out]
   have h2:=own_kept hown hg6 (new_ne (own_newB hown) hfC)
   rw [EN2.out] at h2
   exact h2
  ·exact (HFA4.out.symm.new HOA4.out (Nat.le_refl _) (place_of hplace)).symm
  ·intro x hx h1 h2 h3
   rw [hg6.block x (by omega) (fun e=>h1 (by injection e)),hgrow.block x (by omega) h3,HG4.out.block x (by omega),HG3.out.block x (by omega) (fun e=>h1 (by injection e)),HG2.out.block x hx h2]
  ·exact ⟨w.heap.size,w4.heap.size,Nat.le_refl _,HSZ.out,HP2.out,place_of hplace⟩
  ·refine ⟨by have:=hg6.size;omega,?_,?_,?_⟩
   ·rw [hg6.os,hgrow.os,HG4.out.os,HG3.out.os,HG2.out.os]
   ·rw [hg6.tape,hgrow.tape,HG4.out.tape,HG3.out.tape,HG2.out.tape]
   ·rw [hg6.output,hgrow.output,HG4.out.output,HG3.out.output,HG2.out.output]
 clear HB2 HO2 HG2 HOA HOE HBK z0 y0 f0
 refine wp_region_noPanic ?_
 refine wp_region_held_drew (S:=fun wz=>wz.cell? ⟨cb,5,none⟩=some (.slice a2 N2 c2)) (by kernel_rfl) (by exact q0) (fun hHeld=>?_)
 refine tk 0 ?_
 refine tk 1 ?_
 refine tk 2 ?_
 refine tk 3 ?_
 refine tk 5 ?_
 refine tk 6 ?_
 refine tk 7 ?_
 refine tk 8 ?_
 refine tk 9 ?_
 refine wpAnyH_ready (rs:=[4,10]) (by kernel_rfl) (by simp) ?_
 refine AllReadyH.cons (o:=_) rfl (fun K hK=>?_) (AllReadyH.cons (o:=_) rfl (fun K hK=>?_) AllReadyH.nil)
 ·(try simp only [gA,gB,gC]);go_simp
  refine wo hK hHeld fun hHeld2=>?_
  clear hK K
  refine rd 10 fun K hK=>?_
  (try simp only [gA,gB,gC]);go_simp
  rw [←Ew4.out]
  refine wo hK xa0 fun hHeld3=>?_
  clear hK K
  refine rd 11 fun K hK=>?_
  refine step_int _ rfl (.tmp 17) (.tmp 23) rfl C ev Ls.length _ rfl HOE4.out ⟨w3.heap.size,0,none⟩ (N2:Int) rfl HCL.out (by omega) (Nat.le_trans hC HSZ.out) ?_
  intro g5 c5 w5 hown hgrow hplace
  obtain ⟨hb5,hfin⟩:=HR5.out g5 c5 w5 hown hgrow hplace
  have HFI:=hidden hfin
  have y0:w5.cell? ⟨cb,5,none⟩=some (.slice a2 N2 c2):=hb5.cell (i:=5) rfl
  have y1:w5.cell? ⟨cb,6,none⟩=some ev:=hb5.cell (i:=6) rfl
  have f1:=hb5.frozen 6
  clear hown hgrow hplace hb5 hfin HR5
  refine wo hK y0 fun hHeld4=>?_
  clear hK K
  refine tk 12 ?_
  refine tk 13 ?_
  refine rd 14 fun K hK=>?_
  (try simp only [gA,gB,gC]);go_simp
  refine wo hK (by rw [World.cell?_setCell_other _ _ _ _ (by simp)];exact y0) fun hHeld5=>?_
  clear hK K
  refine wpAnyH_done (by kernel_rfl) ?_ _
  refine NoPanic.normal ?_
  go_wp2_with fail
  go_end0
  exact HFI.out
 ·(try simp only [gA,gB,gC]);go_simp
  rw [←Ew4.out]
  refine wo hK xa0 fun hHeld2=>?_
  clear hK K
  refine rd 4 fun K hK=>?_
  (try simp only [gA,gB,gC]);go_simp
  refine wo hK xa0 fun hHeld3=>?_
  clear hK K
  refine rd 11 fun K hK=>?_
  refine step_int _ rfl (.tmp 17) (.tmp 23) rfl C ev Ls.length _ rfl HOE4.out ⟨w3.heap.size,0,none⟩ (N2:Int) rfl HCL.out (by omega) (Nat.le_trans hC HSZ.out) ?_
  intro g5 c5 w5 hown hgrow hplace
  obtain ⟨hb5,hfin⟩:=HR5.out g5 c5 w5 hown hgrow hplace
  have HFI:=hidden hfin
  have y0:w5.cell? ⟨cb,5,none⟩=some (.slice a2 N2 c2):=hb5.cell (i:=5) rfl
  have y1:w5.cell? ⟨cb,6,none⟩=some ev:=hb5.cell (i:=6) rfl
  have f1:=hb5.frozen 6
  clear hown hgrow hplace hb5 hfin HR5
  refine wo hK y0 fun hHeld4=>?_
  clear hK K
  refine tk 12 ?_
  refine tk 13 ?_
  refine rd 14 fun K hK=>?_
  (try simp only [gA,gB,gC]);go_simp
  refine wo hK (by rw [World.cell?_setCell_other _ _ _ _ (by simp)];exact y0) fun hHeld5=>?_
  clear hK K
  refine wpAnyH_done (by kernel_rfl) ?_ _
  refine NoPanic.normal ?_
  go_wp2_with fail
  go_end0
  exact HFI.out
end Go.Proofs.Ytlaljeobdddegaa

namespace Go.Proofs.Ytlaljeobdddegaa
open Go.RowKit Mp
theorem own_same {w w':World} {C e sz n:Nat} {v:Value} {xs:List Value} (h:w.ownsRow C e sz v n xs) (hs:∀ k,v.ownBlock=some k→w'.heap[k]?=w.heap[k]?):w'.ownsRow C e sz v n xs:=by
 refine ⟨h.1,?_⟩
 rcases h.2 with ⟨rfl,hn⟩ | ⟨g,cap,cur,rfl,h1,h2,h3⟩
 ·exact Or.inl ⟨rfl,hn⟩
 ·exact Or.inr ⟨g,cap,cur,rfl,h1,(hs g rfl).trans h2,h3⟩
theorem CvAt.gates {C:Nat} {w w1 w2:World} {D:ChS} {U:Nat→Nat} {gs:List Nat} {Ls:List (List Nat)} {bs:List Nat} {gv lv ev bv:Value} (h:CvAt C w D U gs Ls bs gv lv ev bv) (hb:Bl w w1) (hg:w1.grownBy w2 gv.ownBlock) {v g cap s:Nat} (ho:w2.ownsRow C 3 1 (.slice (some ⟨g,0,none⟩) (gs.length+1) cap) (gs.length+1) (gs.map nV++[.int .i64 (v:Int)])) (hp:gv.ownBlock=some g∨g=s) (hs:w.heap.size≤s) :
  CvAt C (w2.setCell ⟨D.cb,4,none⟩ (.slice (some ⟨g,0,none⟩) (gs.length+1) cap)) D U (gs++[v]) Ls bs (.slice (some ⟨g,0,none⟩) (gs.length+1) cap) lv ev bv:=by
 have h1:=h.to hb
 have hg6:=(But.set D.cb 4 w2 (.slice (some ⟨g,0,none⟩) (gs.length+1) cap)).grown
 have hcb:some D.cb≠gv.ownBlock:=fun e=>by have:=own_newB h.og D.cb e.symm;have:=h.lt.1;omega
 have nx:∀ {e sz n:Nat} {x:Value} {xs:List Value},w1.ownsRow C e sz x n xs→FaV gv x→(w2.setCell ⟨D.cb,4,none⟩ (.slice (some ⟨g,0,none⟩) (gs.length+1) cap)).ownsRow C e sz x n xs:=fun hx hf=>own_kept (own_kept hx hg hf.or) hg6 (new_ne (own_newB hx) h.lt.1)
 have s1:=hb.size
 have s2:=hg.size
 refine ⟨?_,?_,nx h1.ol h.f1,nx h1.oe h.f2,nx h1.ob h.f3,h.f1.new h.ol hs (place_of hp),h.f2.new h.oe hs (place_of hp),h.f3.new h.ob hs (place_of hp),h.f4,h.f5,h.f6,h.lt,by have:=hg6.size;have:=h1.le;omega⟩
 ·refine h.ch.cell4 ((blk_kept h1.ch.bk hg hcb).set 4 _) (fun k hk hkk=>?_)
  have hkC:k<C∧k≠D.cb:=by
   rcases hkk with rfl | rfl
   ·exact ⟨h.lt.2.1,fun e=>h.ch.ne.2.2 e.symm⟩
   ·exact ⟨h.lt.2.2,fun e=>h.ch.ne.1 e.symm⟩
  rw [hg6.block k (by omega) (fun e=>hkC.2 (by injection e)),hg.block k (by omega) (fun e=>by have:=own_newB h.og k e.symm;omega),hb.block k hk]
 ·rw [List.map_append,List.length_append]
  exact own_kept ho hg6 (new_ne (own_newB ho) h.lt.1)
theorem CvAt.bits {C:Nat} {w w1 w2:World} {D:ChS} {U:Nat→Nat} {gs:List Nat} {Ls:List (List Nat)} {bs:List Nat} {gv lv ev bv:Value} (h:CvAt C w D U gs Ls bs gv lv ev bv) (hb:Bl w w1) (hg:w1.grownBy w2 bv.ownBlock) {v g cap s:Nat} (ho:w2.ownsRow C 3 1 (.slice (some ⟨g,0,none⟩) (bs.length+1) cap) (bs.length+1) (bs.map nV++[.int .i64 (v:Int)])) (hp:bv.ownBlock=some g∨g=s) (hs:w.heap.size≤s) :
  CvAt C (w2.setCell ⟨D.cb,7,none⟩ (.slice (some ⟨g,0,none⟩) (bs.length+1) cap)) D U gs Ls (bs++[v]) gv lv ev (.slice (some ⟨g,0,none⟩) (bs.length+1) cap):=by
 have h1:=h.to hb
 have hg6:=(But.set D.cb 7 w2 (.slice (some ⟨g,0,none⟩) (bs.length+1) cap)).grown
 have hcb:some D.cb≠bv.ownBlock:=fun e=>by have:=own_newB h.ob D.cb e.symm;have:=h.lt.1;omega
 have nx:∀ {e sz n:Nat} {x:Value} {xs:List Value},w1.ownsRow C e sz x n xs→FaV bv x→(w2.setCell ⟨D.cb,7,none⟩ (.slice (some ⟨g,0,none⟩) (bs.length+1) cap)).ownsRow C e sz x n xs:=fun hx hf=>own_kept (own_kept hx hg hf.or) hg6 (new_ne (own_newB hx) h.lt.1)
 have s1:=hb.size
 have s2:=hg.size
 refine ⟨?_,nx h1.og h.f3.symm,nx h1.ol h.f5.symm,nx h1.oe h.f6.symm,?_,h.f1,h.f2,(h.f3.symm.new h.og hs (place_of hp)).symm,h.f4,(h.f5.symm.new h.ol hs (place_of hp)).symm,(h.f6.symm.new h.oe hs (place_of hp)).symm,h.lt,by have:=hg6.size;have:=h1.le;omega⟩
 ·refine h.ch.cell4 ((blk_kept h1.ch.bk hg hcb).set 7 _) (fun k hk hkk=>?_)
  have hkC:k<C∧k≠D.cb:=by
   rcases hkk with rfl | rfl
   ·exact ⟨h.lt.2.1,fun e=>h.ch.ne.2.2 e.symm⟩
   ·exact ⟨h.lt.2.2,fun e=>h.ch.ne.1 e.symm⟩
  rw [hg6.block k (by omega) (fun e=>hkC.2 (by injection e)),hg.block k (by omega) (fun e=>by have:=own_newB h.ob k e.symm;omega),hb.block k hk]
 ·rw [List.map_append,List.length_append]
  exact own_kept ho hg6 (new_ne (own_newB ho) h.lt.1)
theorem CvAt.leaves {C:Nat} {w w':World} {D:ChS} {U:Nat→Nat} {gs:List Nat} {Ls:List (List Nat)} {bs:List Nat} {gv lv ev bv:Value} {ls:List Nat} {e:Ending} (h:CvAt C w D U gs Ls bs gv lv ev bv) (ha:AddP C w w' D.cb (.pointer (some ⟨D.fb,0,none⟩)) (.int .i64 (D.F:Nat)) (.slice (some ⟨D.pb,0,none⟩) D.N D.N) (.slice (some ⟨D.ub,0,none⟩) D.N D.N) gv bv lv ev Ls 89 ls e):(∃ v,e = .returned v)∧∃ lv' ev',CvAt C w' D U gs (Ls++[ls]) bs gv lv' ev' bv∧(∀ x:Nat,x<w.heap.size→x≠D.cb→some x≠lv.ownBlock→some x≠ev.ownBlock→w'.heap[x]?=w.heap[x]?)∧w.heap.size≤w'.heap.size∧w'.os=w.os∧w'.tape=w.tape∧w'.output=w.output:=by
 obtain ⟨av',ev',hv,HB,HA,HE,HF,HFr,HPl,HSz⟩:=ha
 obtain ⟨s1,s2,h1,h2,h3,h4⟩:=HPl.out
 have keep:∀ {e sz n:Nat} {x:Value} {xs:List Value},w.ownsRow C e sz x n xs→FaV x lv→FaV x ev→w'.ownsRow C e sz x n xs:=fun hx f1 f2=>own_same hx (fun k hk=>HFr.out k (own_lt hx k hk) (fun e=>by have:=own_newB hx k hk;have:=h.lt.1;omega) (fun e=>f1 k hk e.symm) (fun e=>f2 k hk e.symm))
 refine ⟨hv,av',ev',⟨?_,keep h.og h.f1 h.f2,HA.out,HE.out,keep h.ob h.f5.symm h.f6.symm,(h.f1.symm.new h.og h1 h3).symm,(h.f2.symm.new h.og h2 h4).symm,h.f3,HF.out,h.f5.new h.ob h1 h3,h.f6.new h.ob h2 h4,h.lt,Nat.le_trans h.le HSz.out.1⟩,HFr.out,HSz.out⟩
 refine h.ch.cell4 HB.out (fun k hk hkk=>?_)
 have hkC:k<C∧k≠D.cb:=by
  rcases hkk with rfl | rfl
  ·exact ⟨h.lt.2.1,fun e=>h.ch.ne.2.2 e.symm⟩
  ·exact ⟨h.lt.2.2,fun e=>h.ch.ne.1 e.symm⟩
 exact HFr.out k hk hkC.2 (fun e=>by have:=own_newB h.ol k e.symm;omega) (fun e=>by have:=own_newB h.oe k e.symm;omega)
end Go.Proofs.Ytlaljeobdddegaa
