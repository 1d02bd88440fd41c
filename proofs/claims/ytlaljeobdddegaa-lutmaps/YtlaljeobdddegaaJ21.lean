import Derived.Test.YtlaljeobdddegaaJ06
import Derived.Deep.Cut
namespace Go.Proofs.Ytlaljeobdddegaa
open Go.RowKit
theorem wpList_append_any {P:Program} (w:World) {ops:Array Oper} {rest:List Oper} {o:Oper} {a:Act} {Q:Exit→Act→World→Prop} (hgd:o.guard=none) (s x:Operand) (t:TypeId)
  (ho:o.op = .call { callee:=.builtin .append,args:=#[s,x],argTypes:=#[t,t] })
  (base:Nat) (e:TypeId) (i:TypeInfo) (z:Value) (bytes:Nat) (ht:P.underlying t=some (.slice e)) (hi:P.info? e=some i) (hz:i.zero=some z)
  (hsize:i.size=1) (hby:i.bytes=bytes) (hzs:z.cells.size=1)
  (v:Value) (n:Nat) (xs:List Value) (hs:a.eval s=v) (hown:w.ownsRow base e 1 v n xs)
  (xv:Value) (l:List Bool) (hx:a.eval x=xv) (hb:BS w xv l)
  (h63:n+l.length≤maxLen) (hbytes:(n+l.length)*bytes≤140737488355328) (hbase:base≤w.heap.size)
  (h:∀ v' w',w'.ownsRow base e 1 v' (n+l.length) (xs++l.map bV)→w.grownBy w' v.ownBlock→wpList P ops Q rest (a.put o.dst v') w') :
  wpList P ops Q (o :: rest) a w:=by
 rcases hb with ⟨rfl,rfl⟩ | ⟨b,off,c,rfl,hlt,hc⟩
 ·refine wpList_plain hgd fun K hK=>?_
  have hr:=run_append_owned_none (P:=P) w base t o.type e i 1 ht hi v n xs hown
  unfold Oper.wp execOp
  simp only [ho,resolve,invoke,builtin,Sem.run_bind,Sem.run_pure,Result.andThen_ok,List.map_toArray,List.map_cons,List.map_nil,hs,hx,hr]
  exact hK _ _ (h v w (by simpa using hown) (World.grownBy.refl _ _))
 ·refine wpList_append_own_at w hgd s x t ho base e i z 1 bytes ht hi hz hsize hby hzs (by decide) v n xs hs hown ⟨b,off,none⟩ l.length c (l.map bV) hx (by simp) ?_ ?_ h63 hbytes hbase ?_
  ·intro j u hu
   rw [List.getElem?_map] at hu
   cases hl:l[j]? with
   | none=>rw [hl] at hu;cases hu
   | some y =>
    rw [hl] at hu
    have e:Value.bool y=u:=by simpa [bV] using hu
    subst e
    have e2:(⟨b,off,none⟩:Addr).add j=⟨b,off+j,none⟩:=by unfold Addr.add;split <;> simp_all
    rw [e2];exact hc j y hl
  ·intro u hu
   obtain ⟨y,_,rfl⟩:=List.mem_map.1 hu
   rfl
  ·intro v' w' h1 h2 _ _
   exact h v' w' h1 h2
theorem grown_bare {V wr w5:World} (h:Below V.heap.size V wr) {e:TypeId} {size n:Nat} {v:Value} {xs:List Value} (HO:wr.ownsRow V.heap.size e size v n xs) (hg:wr.grownBy w5 v.ownBlock):Below V.heap.size V w5 :=
 h.grown hg h.size (fun k hk=>(HO.lt k hk).1)
def AndsIn (G:GrD):Prop:=∀ (k:Nat) (d:AndD),G.ands[k]?=some d→(0≤d.x∧d.x<2*(1+G.ins.toNat+G.lats.length+k:Nat))∧(0≤d.y∧d.y<2*(1+G.ins.toNat+G.lats.length+k:Nat))
set_option maxRecDepth 100000 in
set_option maxHeartbeats 8000000 in
theorem cycle_any (B:Nat) (w:World) (S:GrS) (G:GrD) (h:GrAt B w S G) (hB:B≤w.heap.size) (hs:G.small) (ha:AndsIn G) (row st:List Bool) (hst:st.length=G.lats.length) (ai:Option Addr) (ci:Nat) (hrow:RowAt B w ai 1 (row.map bC)) (sv:Value) (hsv:BS w sv st) :
  Calls Try.prog 43 #[.agg (S.cells G),.slice ai row.length ci,sv] w fun e w'=>∃ v,e = .returned v∧w'.ownsRow w.heap.size 4 1 v (1+G.ins.toNat+G.lats.length+G.ands.length) ((cycN G row st).map bV)∧Below w.heap.size w w':=by
 obtain ⟨g0,g1,g2,g3,g4⟩:=hs
 have hin:∃ n:Nat,G.ins=(n:Int)∧n≤60000:=⟨G.ins.toNat,by omega,by omega⟩
 obtain ⟨ni,hni,hnl⟩:=hin
 have HNI:Hid (G.ins.toNat=ni):=by show _=_;omega
 have ga:G.ands.length≤60000:=by unfold GrD.vars GrD.first at g4;omega
 obtain ⟨R,HR⟩:∃ R,Hid (cycN G row st=R):=⟨_,rfl⟩
 rw [HR.out,HNI.out]
 unfold AndsIn at ha
 rw [HNI.out] at ha
 have HA:=hidden ha
 have HST:=hidden hst
 unfold GrS.cells
 have HNE:=hidden hni
 clear g0 g1 g3 g4 ha hni
 obtain ⟨ib,hib,hzb,hsb,hbb⟩:=info_bool
 have HI:=hidden hib
 have HZ:=hidden hzb
 have HS:=hidden hsb
 have HBY:=hidden hbb
 clear hib hzb hsb hbb
 go_enter Try.func43,Try.ntmps43
 go_upto_region 1 with fail
 generalize hW:World.alloc w _=W
 have HB:Hid (Below w.heap.size w W):=by rw [←hW];exact (Below.refl _ _).alloc (Nat.le_refl _) _
 have hN:w.heap.size<W.heap.size:=by rw [←hW];simp
 have HX:Hid (BoxAt W w.heap.size S G):=by
  rw [←hW]
  exact ⟨by simp,by simp,by simp,by simp,by simp⟩
 have HAW:Hid (GrAt B W S G):=h.to (HB.out.mono hB)
 have hBW:B≤W.heap.size:=Nat.le_trans hB HB.out.size
 clear hW h
 have HROW:=hidden (hrow.to (HB.out.mono hB))
 have HSV:=hidden (hsv.to HB.out)
 clear hrow hsv
 go_wp2_with fail
 have HO0:Hid ((W.alloc (.cells #[.bool false] 4)).ownsRow W.heap.size 4 1 (.slice (some ⟨W.heap.size,0,none⟩) 1 1) 1 (([false]++inRow 0 row).map bV)):=World.ownsRow_lit W #[.bool false] 1 (Nat.le_refl _) (by decide) rfl
 go_loopw [7,8] (fun v i' w'=>∃ (k:Nat),k≤ni∧i' = .int .i64 k∧Hid (w'.ownsRow W.heap.size 4 1 v (1+k) (([false]++inRow k row).map bV))∧Hid (Below W.heap.size W w')) (fun _ i' _=>ni - (intOf i').toNat)
 case atStart=>exact ⟨0,Nat.zero_le _,rfl,HO0.out,(Below.refl _ _).alloc (Nat.le_refl _) _⟩
 case round =>
  obtain ⟨k,hk,rfl,HO,HBr⟩:=hrel
  have q0R:=(HBr.out.cell (p:=⟨w.heap.size,0,none⟩) hN).trans HX.out.c0
  rw [HNE.out] at q0R
  by_cases hlt:k<ni
  ·have hltI:(k:Int)<(ni:Int):=by omega
   have e3:IntKind.i64.wrap ((k:Int)+1)=(k:Int)+1:=wrapI _ (by omega) (by omega)
   have hm1:1+k+1≤maxLen:=by simp only [maxLen];omega
   have hm2:(1+k+1)*1≤140737488355328:=by omega
   have hsz:=HBr.out.size
   have HNX:Hid (([false]++inRow (k+1) row).map bV=([false]++inRow k row).map bV++[.bool (row[k]?.getD false)]):=by
    show _=_
    rw [inRow_next,←List.append_assoc,List.map_append];rfl
   by_cases hin:k<row.length
   ·obtain ⟨x,hx⟩:=getElem_lt hin
    obtain ⟨rb,ro,ea,hrb,cx⟩:=rowB HROW.out hx
    have cxR:=(HBr.out.cell (p:=⟨rb,ro+k,none⟩) (Nat.lt_of_lt_of_le hrb hBW)).trans cx
    rw [hx] at HNX
    simp only [Option.getD_some] at HNX
    have hinI:(k:Int)<(row.length:Int):=by omega
    subst ea
    have hm3:W.heap.size≤(wr.alloc (.cells #[.bool x] 4)).heap.size:=by simp;omega
    clear hx cx hrb
    have tok:True:=trivial
    go_wp2_with (have _t:=tok;at_builtin;(refine wpList_append_lies _ rfl (.tmp 17) (.tmp 28) 30 rfl W.heap.size 4 ib _ 1 1 Try.underlying30 HI.out HZ.out HS.out HBY.out rfl (by decide) u7 (1+k) _ rfl (HO.out.alloc _) ⟨wr.heap.size,0,none⟩ 1 1 [.bool x] rfl rfl (World.news_of_block (heap_new _ _)) (by simp [Value.oneCell']) (by decide) hm1 hm2 hm3 _ rfl ?_;intro g cap w5 hown hgrow hat5 hlt5;clear tok))
    have HO5:Hid (w5.ownsRow W.heap.size 4 1 (.slice (some ⟨g,0,none⟩) (1+k+1) cap) (1+(k+1)) (([false]++inRow (k+1) row).map bV)):=by
     show World.ownsRow _ _ _ _ _ _ _
     rw [HNX.out]
     exact hown
    have HB5:Hid (Below W.heap.size W w5):=grown_plain HBr.out HO.out hgrow
    clear hown hgrow hat5 hlt5 hm1 hm2 hm3 HO HBr HNX
    go_wp2
    go_roundw
    case measure=>simp [intOf];omega
    case rel=>exact ⟨k+1,by omega,by simp,HO5.out,HB5.out⟩
   ·have hinI:¬ (k:Int)<(row.length:Int):=by omega
    rw [List.getElem?_eq_none (by omega)] at HNX
    simp only [Option.getD_none] at HNX
    have hm3:W.heap.size≤(wr.alloc (.cells #[.bool false] 4)).heap.size:=by simp;omega
    have tok:True:=trivial
    go_wp2_with (have _t:=tok;at_builtin;(refine wpList_append_lies _ rfl (.tmp 17) (.tmp 28) 30 rfl W.heap.size 4 ib _ 1 1 Try.underlying30 HI.out HZ.out HS.out HBY.out rfl (by decide) u7 (1+k) _ rfl (HO.out.alloc _) ⟨wr.heap.size,0,none⟩ 1 1 [.bool false] rfl rfl (World.news_of_block (heap_new _ _)) (by simp [Value.oneCell']) (by decide) hm1 hm2 hm3 _ rfl ?_;intro g cap w5 hown hgrow hat5 hlt5;clear tok))
    have HO5:Hid (w5.ownsRow W.heap.size 4 1 (.slice (some ⟨g,0,none⟩) (1+k+1) cap) (1+(k+1)) (([false]++inRow (k+1) row).map bV)):=by
     show World.ownsRow _ _ _ _ _ _ _
     rw [HNX.out]
     exact hown
    have HB5:Hid (Below W.heap.size W w5):=grown_plain HBr.out HO.out hgrow
    clear hown hgrow hat5 hlt5 hm1 hm2 hm3 HO HBr HNX
    go_wp2
    go_roundw
    case measure=>simp [intOf];omega
    case rel=>exact ⟨k+1,by omega,by simp,HO5.out,HB5.out⟩
  ·have hge:¬ ((k:Int)<(ni:Int)):=by omega
   obtain rfl:k=ni:=by omega
   have hm1:1+k+st.length≤maxLen:=by simp only [maxLen];omega
   have hm2:(1+k+st.length)*1≤140737488355328:=by omega
   have tok:True:=trivial
   go_wp2_with (have _t:=tok;at_builtin;(refine wpList_append_any _ rfl (.tmp 30) (.tmp 31) 30 rfl W.heap.size 4 ib _ 1 Try.underlying30 HI.out HZ.out HS.out HBY.out rfl u7 (1+k) _ rfl HO.out sv st rfl (HSV.out.to HBr.out) hm1 hm2 HBr.out.size ?_;intro v6 w6 hown hgrow;have HB6:=hidden (grown_bare HBr.out HO.out hgrow);have HO6:=hidden hown;clear tok hown hgrow))
   have HB0:∃ b0,Hid ([false]++inRow k row++st=b0):=⟨_,rfl⟩
   obtain ⟨b0,HB0⟩:=HB0
   have hF:∃ F,Hid (1+k+st.length=F)∧F≤70000:=⟨_,rfl,by omega⟩
   obtain ⟨F,HF,hF⟩:=hF
   have HO7:Hid (w6.ownsRow W.heap.size 4 1 v6 (F+0) ((andsN b0 (G.ands.take 0)).map bV)):=by
    have:=HO6.out
    rw [HF.out,←List.map_append,HB0.out] at this
    exact this
   have HRE:Hid (andsN b0 G.ands=R):=by
    show _=_
    rw [←HR.out,←HB0.out];unfold cycN;rw [HNI.out]
   have HFE:Hid (1+k+G.lats.length=F):=by show _=_;rw [←HST.out];exact HF.out
   have HA2:Hid (∀ (j:Nat) (d:AndD),G.ands[j]?=some d→(0≤d.x∧d.x<2*((F+j:Nat):Int))∧(0≤d.y∧d.y<2*((F+j:Nat):Int))):=by
    intro j d hd
    have:=HA.out j d hd
    rwa [HFE.out] at this
   clear HO HO6 HBr HA hm1 hm2 HR
   go_wp2_with fail
   go_loopw [7,9] (fun v i' w'=>∃ (j:Nat),j≤G.ands.length∧i' = .int .i64 j∧Hid (w'.ownsRow W.heap.size 4 1 v (F+j) ((andsN b0 (G.ands.take j)).map bV))∧Hid (Below W.heap.size W w')) (fun _ i' _=>G.ands.length - (intOf i').toNat)
   case atStart=>exact ⟨0,Nat.zero_le _,rfl,HO7.out,HB6.out⟩
   case round =>
    obtain ⟨j,hj,rfl,HO,HBr⟩:=hrel
    have q2R:=(HBr.out.cell (p:=⟨w.heap.size,2,none⟩) hN).trans HX.out.c2
    by_cases hlt:j<G.ands.length
    ·obtain ⟨d,hd⟩:=getElem_lt hlt
     obtain ⟨rb,ro,ea,hrb,hrc⟩:=HAW.out.a.el hd
     have hrbW:rb<W.heap.size:=Nat.lt_of_lt_of_le hrb hBW
     have c0:wr.cell? ⟨rb,ro+j*2,none⟩=_:=(HBr.out.cell (p:=⟨rb,ro+j*2,none⟩) hrbW).trans (hrc 0 _ rfl)
     have c1:=(HBr.out.cell (p:=⟨rb,ro+j*2+1,none⟩) hrbW).trans (hrc 1 _ rfl)
     rw [ea] at q2R
     obtain ⟨hx,hy⟩:=HA2.out j d hd
     obtain ⟨vs,HVS⟩:∃ vs,Hid (andsN b0 (G.ands.take j)=vs):=⟨_,rfl⟩
     have HNX:Hid ((andsN b0 (G.ands.take (j+1))).map bV=vs.map bV++[.bool (litV vs d.x && litV vs d.y)]):=by
      show _=_
      rw [take_next _ j d hd,ands_snoc,HVS.out,List.map_append];rfl
     have hO:=HO.out
     rw [HVS.out] at hO
     obtain ⟨hvl,av,cv,hu,hrv⟩:=ownRow (g:=bV) hO
     subst hu
     have LA:∀ l,0≤l∧l<2*((F+j:Nat):Int)→Calls Try.prog 44 #[.slice av (F+j) cv,.int .i64 l] wr fun e w'=>e = .returned (.bool (litV vs l))∧w'=wr:=by
      intro l hl
      rw [hvl] at hl ⊢
      exact lit_any wr av cv vs hrv (by simp only [big];omega) l hl
     have LX:=hidden (LA d.x hx)
     have LY:=hidden (LA d.y hy)
     have HO2:=hidden hO
     generalize litV vs d.x=bx at *
     generalize litV vs d.y=bY at *
     obtain ⟨x,y⟩:=d
     simp only at *
     have hltI:(j:Int)<(G.ands.length:Int):=by omega
     have e3:IntKind.i64.wrap ((j:Int)+1)=(j:Int)+1:=wrapI _ (by omega) (by omega)
     have hm1:F+j+1≤maxLen:=by simp only [maxLen];omega
     have hm2:(F+j+1)*1≤140737488355328:=by omega
     have hsz:=HBr.out.size
     clear hd hrc ea hO hrv LA hx hy HO hvl
     cases bx
     ·have hm3:W.heap.size≤(wr.alloc (.cells #[.bool false] 4)).heap.size:=by simp;omega
      go_wp2_with fail
      go_at_call 44
      refine LX.out.mono ?_
      rintro e w2 ⟨rfl,rfl⟩
      have tok:True:=trivial
      go_wp2_with (have _t:=tok;at_builtin;(refine wpList_append_lies _ rfl (.tmp 40) (.tmp 59) 30 rfl W.heap.size 4 ib _ 1 1 Try.underlying30 HI.out HZ.out HS.out HBY.out rfl (by decide) (.slice av (F+j) cv) (F+j) _ rfl (HO2.out.alloc _) ⟨w2.heap.size,0,none⟩ 1 1 [.bool false] rfl rfl (World.news_of_block (heap_new _ _)) (by simp [Value.oneCell']) (by decide) hm1 hm2 hm3 _ rfl ?_;intro g cap w5 hown hgrow hat5 hlt5;clear tok))
      have HO5:Hid (w5.ownsRow W.heap.size 4 1 (.slice (some ⟨g,0,none⟩) (F+j+1) cap) (F+(j+1)) ((andsN b0 (G.ands.take (j+1))).map bV)):=by
       show World.ownsRow _ _ _ _ _ _ _
       rw [HNX.out]
       exact hown
      have HB5:Hid (Below W.heap.size W w5):=grown_plain HBr.out HO2.out hgrow
      clear hown hgrow hat5 hlt5 hm1 hm2 hm3 HO2 HBr HNX LX LY
      go_wp2
      go_roundw
      case measure=>simp [intOf];omega
      case rel=>exact ⟨j+1,by omega,by simp,HO5.out,HB5.out⟩
     ·have hm3:W.heap.size≤(wr.alloc (.cells #[.bool bY] 4)).heap.size:=by simp;omega
      go_wp2_with fail
      go_at_call 44
      refine LX.out.mono ?_
      rintro e w2 ⟨rfl,rfl⟩
      go_wp2_with fail
      go_at_call 44
      refine LY.out.mono ?_
      rintro e w3 ⟨rfl,rfl⟩
      have tok:True:=trivial
      go_wp2_with (have _t:=tok;at_builtin;(refine wpList_append_lies _ rfl (.tmp 40) (.tmp 59) 30 rfl W.heap.size 4 ib _ 1 1 Try.underlying30 HI.out HZ.out HS.out HBY.out rfl (by decide) (.slice av (F+j) cv) (F+j) _ rfl (HO2.out.alloc _) ⟨w3.heap.size,0,none⟩ 1 1 [.bool bY] rfl rfl (World.news_of_block (heap_new _ _)) (by simp [Value.oneCell']) (by decide) hm1 hm2 hm3 _ rfl ?_;intro g cap w5 hown hgrow hat5 hlt5;clear tok))
      have HO5:Hid (w5.ownsRow W.heap.size 4 1 (.slice (some ⟨g,0,none⟩) (F+j+1) cap) (F+(j+1)) ((andsN b0 (G.ands.take (j+1))).map bV)):=by
       show World.ownsRow _ _ _ _ _ _ _
       rw [HNX.out]
       exact hown
      have HB5:Hid (Below W.heap.size W w5):=grown_plain HBr.out HO2.out hgrow
      clear hown hgrow hat5 hlt5 hm1 hm2 hm3 HO2 HBr HNX LX LY
      go_wp2
      go_roundw
      case measure=>simp [intOf];omega
      case rel=>exact ⟨j+1,by omega,by simp,HO5.out,HB5.out⟩
    ·have hge:¬ ((j:Int)<(G.ands.length:Int)):=by omega
     have HO6:Hid (wr.ownsRow W.heap.size 4 1 u7 (1+k+G.lats.length+G.ands.length) (R.map bV)):=by
      have:=HO.out
      rw [List.take_of_length_le (by omega),show j=G.ands.length by omega,HRE.out,←HFE.out] at this
      exact this
     clear HO
     go_wp2
     go_ret
     exact ⟨_,rfl,own_mono HO6.out HB.out.size,HB.out.trans (HBr.out.mono HB.out.size)⟩
end Go.Proofs.Ytlaljeobdddegaa

namespace Go.Proofs.Ytlaljeobdddegaa
open Go.RowKit
def LatsIn (G:GrD) (n:Nat):Prop:=∀ (k:Nat) (d:LatD),G.lats[k]?=some d→0≤d.next∧d.next<2*(n:Int)
def OutsIn (G:GrD) (n:Nat):Prop:=∀ (k:Nat) (l:Int),G.outs[k]?=some l→0≤l∧l<2*(n:Int)
set_option maxRecDepth 100000 in
set_option maxHeartbeats 8000000 in
theorem next_any (B:Nat) (w:World) (S:GrS) (G:GrD) (h:GrAt B w S G) (hB:B≤w.heap.size) (hs:G.small) (ha:AndsIn G) (hli:LatsIn G (1+G.ins.toNat+G.lats.length+G.ands.length)) (hoi:OutsIn G (1+G.ins.toNat+G.lats.length+G.ands.length)) (row st:List Bool) (hst:st.length=G.lats.length) (ai:Option Addr) (ci:Nat) (hrow:RowAt B w ai 1 (row.map bC)) (sv:Value) (hsv:BS w sv st) :
  Calls Try.prog 24 #[.agg (S.cells G),.slice ai row.length ci,sv] w fun e w'=>∃ vn vo,e = .returned (.tuple #[vn,vo])∧w'.ownsRow w.heap.size 4 1 vn G.lats.length ((nextN G (cycN G row st)).map bV)∧w'.ownsRow w.heap.size 4 1 vo G.outs.length ((outN G (cycN G row st)).map bV)∧Below w.heap.size w w':=by
 have hvl:=cyc_length G row st
 rw [hst] at hvl
 have CY:Hid (∀ w',Below w.heap.size w w'→Calls Try.prog 43 #[.agg (S.cells G),.slice ai row.length ci,sv] w' fun e w''=>∃ v,e = .returned v∧w''.ownsRow w'.heap.size 4 1 v (cycN G row st).length ((cycN G row st).map bV)∧Below w'.heap.size w' w''):=by
  intro w' hw'
  rw [hvl]
  exact cycle_any B w' S G (h.to (hw'.mono hB)) (Nat.le_trans hB hw'.size) hs ha row st hst ai ci (hrow.to (hw'.mono hB)) sv (hsv.to hw')
 rw [←hvl] at hli hoi
 obtain ⟨vs,HVS⟩:∃ vs,cycN G row st=vs:=⟨_,rfl⟩
 rw [HVS] at CY hli hoi hvl ⊢
 clear HVS
 obtain ⟨g0,g1,g2,g3,g4⟩:=hs
 have HVL:Hid (vs.length<big):=by
  show _<_
  unfold GrD.vars GrD.first at g4
  simp only [big];omega
 have HLI:=hidden hli
 have HOI:=hidden hoi
 unfold LatsIn at HLI
 unfold OutsIn at HOI
 unfold GrS.cells at *
 clear g0 g1 g4 ha hvl hst hsv hli hoi
 obtain ⟨ib,hib,hzb,hsb,hbb⟩:=info_bool
 have HI:=hidden hib
 have HZ:=hidden hzb
 have HS:=hidden hsb
 have HBY:=hidden hbb
 clear hib hzb hsb hbb
 go_enter Try.func24,Try.ntmps24
 go_upto_region 1 with fail
 generalize hW:World.alloc w _=W
 have HB:Hid (Below w.heap.size w W):=by rw [←hW];exact (Below.refl _ _).alloc (Nat.le_refl _) _
 have hN:w.heap.size<W.heap.size:=by rw [←hW];simp
 have HX:Hid (BoxAt W w.heap.size S G):=by
  rw [←hW]
  exact ⟨by simp,by simp,by simp,by simp,by simp⟩
 have HAW:Hid (GrAt B W S G):=h.to (HB.out.mono hB)
 have hBW:B≤W.heap.size:=Nat.le_trans hB HB.out.size
 clear hW h
 clear hrow
 have q0:=HX.out.c0
 have q1:=HX.out.c1
 have q2:=HX.out.c2
 have q3:=HX.out.c3
 go_wp2_with (go_at_call 43;refine (CY.out _ HB.out).mono ?_;rintro e V ⟨v,rfl,hov,hbv⟩;have HBV:=hidden hbv;have HOV:=hidden hov;clear hov hbv)
 obtain ⟨-,av,cv,hu,hrv⟩:=ownRow (g:=bV) HOV.out
 subst hu
 have HRV:Hid (RowAt V.heap.size V av 1 (vs.map bC)):=hrv
 clear hrv q0 q1 q2 q3 CY HOV
 go_loopw [9,11] (fun v i' w'=>∃ (k:Nat),k≤G.lats.length∧i' = .int .i64 k∧Hid (w'.ownsRow V.heap.size 4 1 v k (((G.lats.take k).map (fun d=>litV vs d.next)).map bV))∧Hid (Below V.heap.size V w')) (fun _ i' _=>G.lats.length - (intOf i').toNat)
 case atStart=>exact ⟨0,Nat.zero_le _,rfl,World.ownsRow_nil _ _ _ _,Below.refl _ _⟩
 case round =>
  obtain ⟨k,hk,rfl,HO,HBr⟩:=hrel
  have qR:=(HBr.out.cell (p:=⟨w.heap.size,1,none⟩) (Nat.lt_of_lt_of_le hN HBV.out.size)).trans ((HBV.out.cell (p:=⟨w.heap.size,1,none⟩) hN).trans HX.out.c1)
  by_cases hlt:k<G.lats.length
  ·obtain ⟨z,hz⟩:=getElem_lt hlt
   obtain ⟨rb,ro,ea,hrb,hrc⟩:=HAW.out.l.el hz
   have hrbW:rb<W.heap.size:=Nat.lt_of_lt_of_le hrb hBW
   have c0:wr.cell? ⟨rb,ro+k*2,none⟩=some (.int .i64 z.next):=(HBr.out.cell (p:=⟨rb,ro+k*2,none⟩) (Nat.lt_of_lt_of_le hrbW HBV.out.size)).trans ((HBV.out.cell (p:=⟨rb,ro+k*2,none⟩) hrbW).trans (hrc 0 _ rfl))
   rw [ea] at qR
   have hin:=HLI.out k z hz
   have HNX:Hid (((G.lats.take (k+1)).map (fun d=>litV vs d.next)).map bV=((G.lats.take k).map (fun d=>litV vs d.next)).map bV++[.bool (litV vs z.next)]):=by
    show _=_
    rw [take_next _ k z hz,List.map_append,List.map_append];rfl
   have LX:Hid (Calls Try.prog 44 #[.slice av vs.length cv,.int .i64 z.next] wr fun e w'=>e = .returned (.bool (litV vs z.next))∧w'=wr):=lit_any wr av cv vs (((HRV.out).to (HBr.out)).mono HBr.out.size) HVL.out z.next hin
   generalize litV vs z.next=bx at *
   generalize z.next=x at *
   have hltI:(k:Int)<(G.lats.length:Int):=by omega
   have e3:IntKind.i64.wrap ((k:Int)+1)=(k:Int)+1:=wrapI _ (by omega) (by omega)
   have hm1:k+1≤maxLen:=by simp only [maxLen];omega
   have hm2:(k+1)*1≤140737488355328:=by omega
   have hsz:=HBr.out.size
   have hm3:V.heap.size≤(wr.alloc (.cells #[.bool bx] 4)).heap.size:=by simp;omega
   clear hrc ea hz hrb hin
   go_wp2_with fail
   go_at_call 44
   refine LX.out.mono ?_
   rintro e w2 ⟨rfl,rfl⟩
   have tok:True:=trivial
   go_wp2_with (have _t:=tok;at_builtin;(refine wpList_append_lies _ rfl (.tmp 24) (.tmp 33) 30 rfl V.heap.size 4 ib _ 1 1 Try.underlying30 HI.out HZ.out HS.out HBY.out rfl (by decide) u9 k _ rfl (HO.out.alloc _) ⟨w2.heap.size,0,none⟩ 1 1 [.bool bx] rfl rfl (World.news_of_block (heap_new _ _)) (by simp [Value.oneCell']) (by decide) hm1 hm2 hm3 _ rfl ?_;intro g cap w5 hown hgrow hat5 hlt5;clear tok))
   have HO5:Hid (w5.ownsRow V.heap.size 4 1 (.slice (some ⟨g,0,none⟩) (k+1) cap) (k+1) (((G.lats.take (k+1)).map (fun d=>litV vs d.next)).map bV)):=by
    show World.ownsRow _ _ _ _ _ _ _
    rw [HNX.out]
    exact hown
   have HB5:Hid (Below V.heap.size V w5):=grown_plain HBr.out HO.out hgrow
   clear hown hgrow hat5 hlt5 hm1 hm2 hm3 HO HBr HNX LX
   go_wp2
   go_roundw
   case measure=>simp [intOf];omega
   case rel=>exact ⟨k+1,by omega,by simp,HO5.out,HB5.out⟩
  ·have hge:¬ ((k:Int)<(G.lats.length:Int)):=by omega
   have HNR:Hid (wr.ownsRow V.heap.size 4 1 u9 G.lats.length ((nextN G vs).map bV)):=by
    have:=HO.out
    rw [List.take_of_length_le (by omega),show k=G.lats.length by omega] at this
    exact this
   clear HO
   obtain ⟨U,hU⟩:∃ U,U=wr:=⟨_,rfl⟩
   subst hU
   have HU:=hidden HBr.out
   have HBU:Hid (Below W.heap.size W U):=HBV.out.trans (HBr.out.mono HBV.out.size)
   obtain ⟨vn,hvn⟩:∃ vn,vn=u9:=⟨_,rfl⟩
   subst hvn
   clear HBr
   go_wp2_with fail
   go_loopw [10,12] (fun v i' w'=>∃ (k:Nat),k≤G.outs.length∧i' = .int .i64 k∧Hid (w'.ownsRow U.heap.size 4 1 v k (((G.outs.take k).map (litV vs)).map bV))∧Hid (Below U.heap.size U w')) (fun _ i' _=>G.outs.length - (intOf i').toNat)
   case atStart=>exact ⟨0,Nat.zero_le _,rfl,World.ownsRow_nil _ _ _ _,Below.refl _ _⟩
   case round =>
    obtain ⟨k,hk,rfl,HO,HBr⟩:=hrel
    have qR:=(HBr.out.cell (p:=⟨w.heap.size,3,none⟩) (Nat.lt_of_lt_of_le hN HBU.out.size)).trans ((HBU.out.cell (p:=⟨w.heap.size,3,none⟩) hN).trans HX.out.c3)
    by_cases hlt:k<G.outs.length
    ·obtain ⟨z,hz⟩:=getElem_lt hlt
     obtain ⟨rb,ro,ea,hrb,hrc⟩:=HAW.out.o.el hz
     have hrbW:rb<W.heap.size:=Nat.lt_of_lt_of_le hrb hBW
     have c0:wr.cell? ⟨rb,ro+k,none⟩=some (.int .i64 z):=(HBr.out.cell (p:=⟨rb,ro+k,none⟩) (Nat.lt_of_lt_of_le hrbW HBU.out.size)).trans ((HBU.out.cell (p:=⟨rb,ro+k,none⟩) hrbW).trans (by have:=hrc 0 _ rfl;simpa using this))
     rw [ea] at qR
     have hin:=HOI.out k z hz
     have HNX:Hid (((G.outs.take (k+1)).map (litV vs)).map bV=((G.outs.take k).map (litV vs)).map bV++[.bool (litV vs z)]):=by
      show _=_
      rw [take_next _ k z hz,List.map_append,List.map_append];rfl
     have LX:Hid (Calls Try.prog 44 #[.slice av vs.length cv,.int .i64 z] wr fun e w'=>e = .returned (.bool (litV vs z))∧w'=wr):=lit_any wr av cv vs ((((HRV.out.to HU.out).mono HU.out.size).to (HBr.out)).mono HBr.out.size) HVL.out z hin
     generalize litV vs z=bx at *
     have hltI:(k:Int)<(G.outs.length:Int):=by omega
     have e3:IntKind.i64.wrap ((k:Int)+1)=(k:Int)+1:=wrapI _ (by omega) (by omega)
     have hm1:k+1≤maxLen:=by simp only [maxLen];omega
     have hm2:(k+1)*1≤140737488355328:=by omega
     have hsz:=HBr.out.size
     have hm3:U.heap.size≤(wr.alloc (.cells #[.bool bx] 4)).heap.size:=by simp;omega
     clear hrc ea hz hrb hin
     go_wp2_with fail
     go_at_call 44
     refine LX.out.mono ?_
     rintro e w2 ⟨rfl,rfl⟩
     have tok:True:=trivial
     go_wp2_with (have _t:=tok;at_builtin;(refine wpList_append_lies _ rfl (.tmp 42) (.tmp 50) 30 rfl U.heap.size 4 ib _ 1 1 Try.underlying30 HI.out HZ.out HS.out HBY.out rfl (by decide) u10 k _ rfl (HO.out.alloc _) ⟨w2.heap.size,0,none⟩ 1 1 [.bool bx] rfl rfl (World.news_of_block (heap_new _ _)) (by simp [Value.oneCell']) (by decide) hm1 hm2 hm3 _ rfl ?_;intro g cap w5 hown hgrow hat5 hlt5;clear tok))
     have HO5:Hid (w5.ownsRow U.heap.size 4 1 (.slice (some ⟨g,0,none⟩) (k+1) cap) (k+1) (((G.outs.take (k+1)).map (litV vs)).map bV)):=by
      show World.ownsRow _ _ _ _ _ _ _
      rw [HNX.out]
      exact hown
     have HB5:Hid (Below U.heap.size U w5):=grown_plain HBr.out HO.out hgrow
     clear hown hgrow hat5 hlt5 hm1 hm2 hm3 HO HBr HNX LX
     go_wp2
     go_roundw
     case measure=>simp [intOf];omega
     case rel=>exact ⟨k+1,by omega,by simp,HO5.out,HB5.out⟩
    ·have hge:¬ ((k:Int)<(G.outs.length:Int)):=by omega
     have HOR:Hid (wr.ownsRow U.heap.size 4 1 u10 G.outs.length ((outN G vs).map bV)):=by
      have:=HO.out
      rw [List.take_of_length_le (by omega),show k=G.outs.length by omega] at this
      exact this
     clear HO
     go_wp2
     refine bodyPost_ret (v:=.tuple #[vn,u10]) (by simp [results,Try.results24,go_sem]) rfl ?_
     have hw:w.heap.size≤V.heap.size:=Nat.le_trans HB.out.size HBV.out.size
     exact ⟨_,_,rfl,own_mono (own_below HNR.out HBr.out) hw,own_mono HOR.out (Nat.le_trans hw HU.out.size),HB.out.trans ((HBU.out.trans (HBr.out.mono HBU.out.size)).mono HB.out.size)⟩
end Go.Proofs.Ytlaljeobdddegaa
