import Derived.Test.YtlaljeobdddegaaJ44
namespace Go.Proofs.Ytlaljeobdddegaa
open Go.RowKit Mp
theorem bools_u:Try.prog.underlying 30=some (.slice 4):=Try.underlying30
theorem step_bool (w:World) {ops:Array Oper} {o:Oper} {a:Act} {K:Act→World→Prop} {Q:Exit→Act→World→Prop} {E:Prop} (hgd:o.guard=none) (s x:Operand)
  (ho:o.op = .call { callee:=.builtin .append,args:=#[s,x],argTypes:=#[30,30] })
  (base:Nat) (v:Value) (n:Nat) (xs:List Value) (hs:a.eval s=v) (hown:w.ownsRow base 4 1 v n xs) (ad:Addr) (y:Bool) (hx:a.eval x = .slice (some ad) 1 1) (hy:w.cell? ad=some (.bool y)) (hn:n≤900000000000) (hbase:base≤w.heap.size)
  (h:∀ g cap w',w'.ownsRow base 4 1 (.slice (some ⟨g,0,none⟩) (n+1) cap) (n+1) (xs++[.bool y])→w.grownBy w' v.ownBlock→(v.ownBlock=some g∨g=w.heap.size)→K (a.put o.dst (.slice (some ⟨g,0,none⟩) (n+1) cap)) w'):if Region.wanted o (yielded ops a.tmps)=true then Oper.wp Try.prog o a w K Q else E:=by
 obtain ⟨i,hi,hz,hsz,hby⟩:=info_bool
 refine step_append_lies w hgd s x 30 ho base 4 i _ 1 1 bools_u hi hz hsz hby rfl (by decide) v n xs hs hown ad 1 1 [.bool y] hx rfl (fun j u hu=>?_) (by simp [Value.oneCell']) (by decide) (by simp only [maxLen];omega) (by omega) hbase _ rfl ?_
 ·cases j with
  | zero =>
   obtain rfl:=Option.some.inj hu
   have:ad.add 0=ad:=by
    unfold Addr.add
    split <;> simp_all
   rw [this];exact hy
  | succ j=>simp at hu
 ·intro g cap w' h1 h2 h3 _
  exact h g cap w' h1 h2 h3
theorem newI {w:World} {cc:Nat} (hcc:cc≤200000):∃ w',(Instr.makeSlice 24 (.int .i64 (cc:Int)) (.int .i64 (cc:Int))).run Try.prog w = .ok (.slice (some ⟨w.heap.size,0,none⟩) cc cc) w'∧Blk w' w.heap.size 3 (tabL cc fun _=>.int .i64 0).toArray∧Below w.heap.size w w':=by
 obtain ⟨ib,hib,hzb,hsb,hbb⟩:=info_n
 obtain ⟨w',hr,h3,h4⟩:=run_make_full (P:=Try.prog) w w.heap.size 24 3 ib (.int .i64 0) 1 Try.underlying24 hib hzb hsb .i64 .i64 cc (by rw [hbb];omega) (by simp only [maxLen];omega) (Nat.le_refl _)
 refine ⟨w',hr,?_,none_below h4⟩
 have:=full_blk h3
 rw [made_i64] at this
 exact this
theorem made_bool (n:Nat):(madeCells (Value.bool false).cells (n*1)).toList=tabL n fun _=>Value.bool false:=by
 rw [Nat.mul_one]
 apply List.ext_getElem?
 intro i
 by_cases h:i<n
 ·rw [tabL_get h];simp [madeCells,Value.cells,h,Nat.mod_one]
 ·rw [List.getElem?_eq_none (by simp [madeCells];omega),List.getElem?_eq_none (by rw [tabL_len];omega)]
theorem newB {w:World} {cc:Nat} (hcc:cc≤200000):∃ w',(Instr.makeSlice 30 (.int .i64 (cc:Int)) (.int .i64 (cc:Int))).run Try.prog w = .ok (.slice (some ⟨w.heap.size,0,none⟩) cc cc) w'∧Blk w' w.heap.size 4 (tabL cc fun _=>.bool false).toArray∧Below w.heap.size w w':=by
 obtain ⟨ib,hib,hzb,hsb,hbb⟩:=info_bool
 obtain ⟨w',hr,h3,h4⟩:=run_make_full (P:=Try.prog) w w.heap.size 30 4 ib (.bool false) 1 Try.underlying30 hib hzb hsb .i64 .i64 cc (by rw [hbb];omega) (by simp only [maxLen];omega) (Nat.le_refl _)
 refine ⟨w',hr,?_,none_below h4⟩
 have:=full_blk h3
 rw [made_bool] at this
 exact this
theorem upd_bool (f:Nat→Bool) (v:Nat) (z:Bool):upd (fun v=>Value.bool (f v)) v (.bool z)=fun u=>Value.bool (upd f v z u):=by
 funext u;unfold upd;split <;> rfl
theorem LyAt.want {C:Nat} {w:World} {D:LyS} {N:NetL} {sg:Nat→Int} {wd:Nat→Bool} {iv tv nv ov:Value} (h:LyAt C w D N sg wd iv tv nv ov) (l:Nat) (z:Bool):LyAt C (w.setCell ⟨D.qb,l,none⟩ (.bool z)) D N sg (upd wd l z) iv tv nv ov:=by
 have hb:=But.set D.qb l w (.bool z)
 have nx:∀ {e sz n:Nat} {x:Value} {xs:List Value},w.ownsRow C e sz x n xs→(w.setCell ⟨D.qb,l,none⟩ (.bool z)).ownsRow C e sz x n xs:=fun hx=>own_kept hx hb.grown (new_ne (own_newB hx) h.lt.2.2)
 refine ⟨hb.blk h.bk h.ne.2.1,hb.blk h.sg h.ne.2.2,?_,nx h.oi,nx h.ot,nx h.on,nx h.oo,fun d hd=>⟨nx (h.ti d hd).1,(h.ti d hd).2⟩,h.f1,h.f2,h.f3,h.f4,h.f5,h.f6,h.lt,Nat.le_trans h.le hb.size,h.ne⟩
 have:=h.wd.set l (.bool z)
 rw [tab_set,upd_bool] at this
 exact this
theorem LyAt.ini {C:Nat} {w w1 w2:World} {D:LyS} {N:NetL} {sg:Nat→Int} {wd:Nat→Bool} {iv tv nv ov:Value} (h:LyAt C w D N sg wd iv tv nv ov) (hb:Bl w w1) {x:Bool} (hg:w1.grownBy w2 iv.ownBlock) {g cap:Nat} (ho:w2.ownsRow C 4 1 (.slice (some ⟨g,0,none⟩) (N.init.length+1) cap) (N.init.length+1) (N.init.map Value.bool++[Value.bool x])) (hp:iv.ownBlock=some g∨g=w1.heap.size) :
  LyAt C (w2.setCell ⟨D.lb,1,none⟩ (.slice (some ⟨g,0,none⟩) (N.init.length+1) cap)) D { N with init:=N.init++[x] } sg wd (.slice (some ⟨g,0,none⟩) (N.init.length+1) cap) tv nv ov:=by
 have h1:=h.to hb
 have hg6:=(But.set D.lb 1 w2 (.slice (some ⟨g,0,none⟩) (N.init.length+1) cap)).grown
 have nb:∀ b,b<C→some b≠iv.ownBlock:=fun b hb e=>by have:=own_newB h.oi b e.symm;omega
 have nx:∀ {e sz n:Nat} {y:Value} {xs:List Value},w1.ownsRow C e sz y n xs→FaV iv y→(w2.setCell ⟨D.lb,1,none⟩ (.slice (some ⟨g,0,none⟩) (N.init.length+1) cap)).ownsRow C e sz y n xs:=fun hx hf=>own_kept (own_kept hx hg hf.or) hg6 (new_ne (own_newB hx) h.lt.1)
 have s1:=hb.size
 have hown:(w2.setCell ⟨D.lb,1,none⟩ (.slice (some ⟨g,0,none⟩) (N.init.length+1) cap)).ownsRow C 4 1 (.slice (some ⟨g,0,none⟩) (N.init.length+1) cap) (N.init++[x]).length ((N.init++[x]).map Value.bool):=by
  rw [List.map_append,List.length_append]
  exact own_kept ho hg6 (new_ne (own_newB ho) h.lt.1)
 refine ⟨?_,?_,?_,hown,nx h1.ot h.f1.symm,nx h1.on h.f4.symm,nx h1.oo h.f6,fun t ht=>?_,(h.f1.symm.new h.ot s1 (place_of hp)).symm,h.f2,h.f3,(h.f4.symm.new h.on s1 (place_of hp)).symm,h.f5,h.f6.new h.oo s1 (place_of hp),h.lt,by have:=hg6.size;have:=h1.le;have:=hg.size;omega,h.ne⟩
 ·exact (blk_kept h1.bk hg (nb _ h.lt.1)).set 1 _
 ·exact blk_kept (blk_kept h1.sg hg (nb _ h.lt.2.1)) hg6 (fun e=>h.ne.1 (by injection e with e;exact e.symm))
 ·exact blk_kept (blk_kept h1.wd hg (nb _ h.lt.2.2)) hg6 (fun e=>h.ne.2.1 (by injection e with e;exact e.symm))
 ·obtain ⟨k1,k2,k3,k4,k5⟩:=h1.ti t ht
  have k0:=(h.ti t ht).1
  exact ⟨nx k1 k2.symm,(k2.symm.new k0 s1 (place_of hp)).symm,k3,k4,k5⟩
theorem LyAt.iniB {C C0:Nat} {w xc w5:World} {D:LyS} {N:NetL} {sg:Nat→Int} {wd:Nat→Bool} {iv tv nv ov:Value} (h:LyAt C w D N sg wd iv tv nv ov) (hb:Bl w xc) (hg:xc.grownBy w5 iv.ownBlock) (V:Value) (hC0:C0≤D.lb) :
  Below C0 w (w5.setCell ⟨D.lb,1,none⟩ V)∧(w5.cell? ⟨D.lb,1,none⟩=some iv∧w5.frozen? ⟨D.lb,1,none⟩=false)∧∀ b,b<xc.heap.size→some b≠iv.ownBlock→b≠D.lb→w5.heap[b]?=xc.heap[b]?∧(w5.setCell ⟨D.lb,1,none⟩ V).heap[b]?=xc.heap[b]?:=by
 have hCw:=h.le
 have hlC:=h.lt.1
 have b1:Below C0 w xc:=hb.mono (by omega)
 have b2:Below C0 xc w5:=grow_low hg (Nat.le_trans (by omega) b1.size) (fun k hk=>by have:=own_newB h.oi k hk;omega)
 have hb5:=blk_kept (h.bk.below hb) hg (fun e=>by have:=own_newB h.oi D.lb e.symm;omega)
 refine ⟨b1.trans (b2.trans ((But.set D.lb 1 w5 _).below hC0 (Nat.le_trans (by omega) (b1.trans b2).size))),⟨hb5.cell (i:=1) rfl,hb5.frozen 1⟩,fun b h1 h2 h3=>⟨hg.block b h1 h2,((But.set D.lb 1 w5 _).block b (Nat.lt_of_lt_of_le h1 hg.size) h3).trans (hg.block b h1 h2)⟩⟩
theorem LyAt.nxt {C:Nat} {w w1 w2:World} {D:LyS} {N:NetL} {sg:Nat→Int} {wd:Nat→Bool} {iv tv nv ov:Value} (h:LyAt C w D N sg wd iv tv nv ov) (hb:Bl w w1) {x:Int} (hg:w1.grownBy w2 nv.ownBlock) {g cap:Nat} (ho:w2.ownsRow C 3 1 (.slice (some ⟨g,0,none⟩) (N.next.length+1) cap) (N.next.length+1) (N.next.map zV++[zV x])) (hp:nv.ownBlock=some g∨g=w1.heap.size) :
  LyAt C (w2.setCell ⟨D.lb,3,none⟩ (.slice (some ⟨g,0,none⟩) (N.next.length+1) cap)) D { N with next:=N.next++[x] } sg wd iv tv (.slice (some ⟨g,0,none⟩) (N.next.length+1) cap) ov:=by
 have h1:=h.to hb
 have hg6:=(But.set D.lb 3 w2 (.slice (some ⟨g,0,none⟩) (N.next.length+1) cap)).grown
 have nb:∀ b,b<C→some b≠nv.ownBlock:=fun b hb e=>by have:=own_newB h.on b e.symm;omega
 have nx:∀ {e sz n:Nat} {y:Value} {xs:List Value},w1.ownsRow C e sz y n xs→FaV nv y→(w2.setCell ⟨D.lb,3,none⟩ (.slice (some ⟨g,0,none⟩) (N.next.length+1) cap)).ownsRow C e sz y n xs:=fun hx hf=>own_kept (own_kept hx hg hf.or) hg6 (new_ne (own_newB hx) h.lt.1)
 have s1:=hb.size
 have hown:(w2.setCell ⟨D.lb,3,none⟩ (.slice (some ⟨g,0,none⟩) (N.next.length+1) cap)).ownsRow C 3 1 (.slice (some ⟨g,0,none⟩) (N.next.length+1) cap) (N.next++[x]).length ((N.next++[x]).map zV):=by
  rw [List.map_append,List.length_append]
  exact own_kept ho hg6 (new_ne (own_newB ho) h.lt.1)
 refine ⟨?_,?_,?_,nx h1.oi h.f4,nx h1.ot h.f2.symm,hown,nx h1.oo h.f5,fun t ht=>?_,h.f1,(h.f2.symm.new h.ot s1 (place_of hp)).symm,h.f3,h.f4.new h.oi s1 (place_of hp),h.f5.new h.oo s1 (place_of hp),h.f6,h.lt,by have:=hg6.size;have:=h1.le;have:=hg.size;omega,h.ne⟩
 ·exact (blk_kept h1.bk hg (nb _ h.lt.1)).set 3 _
 ·exact blk_kept (blk_kept h1.sg hg (nb _ h.lt.2.1)) hg6 (fun e=>h.ne.1 (by injection e with e;exact e.symm))
 ·exact blk_kept (blk_kept h1.wd hg (nb _ h.lt.2.2)) hg6 (fun e=>h.ne.2.1 (by injection e with e;exact e.symm))
 ·obtain ⟨k1,k2,k3,k4,k5⟩:=h1.ti t ht
  have k0:=(h.ti t ht).1
  exact ⟨nx k1 k4.symm,k2,k3,(k4.symm.new k0 s1 (place_of hp)).symm,k5⟩
theorem LyAt.nxtB {C C0:Nat} {w xc w5:World} {D:LyS} {N:NetL} {sg:Nat→Int} {wd:Nat→Bool} {iv tv nv ov:Value} (h:LyAt C w D N sg wd iv tv nv ov) (hb:Bl w xc) (hg:xc.grownBy w5 nv.ownBlock) (V:Value) (hC0:C0≤D.lb) :
  Below C0 w (w5.setCell ⟨D.lb,3,none⟩ V)∧(w5.cell? ⟨D.lb,3,none⟩=some nv∧w5.frozen? ⟨D.lb,3,none⟩=false)∧∀ b,b<xc.heap.size→some b≠nv.ownBlock→b≠D.lb→w5.heap[b]?=xc.heap[b]?∧(w5.setCell ⟨D.lb,3,none⟩ V).heap[b]?=xc.heap[b]?:=by
 have hCw:=h.le
 have hlC:=h.lt.1
 have b1:Below C0 w xc:=hb.mono (by omega)
 have b2:Below C0 xc w5:=grow_low hg (Nat.le_trans (by omega) b1.size) (fun k hk=>by have:=own_newB h.on k hk;omega)
 have hb5:=blk_kept (h.bk.below hb) hg (fun e=>by have:=own_newB h.on D.lb e.symm;omega)
 refine ⟨b1.trans (b2.trans ((But.set D.lb 3 w5 _).below hC0 (Nat.le_trans (by omega) (b1.trans b2).size))),⟨hb5.cell (i:=3) rfl,hb5.frozen 3⟩,fun b h1 h2 h3=>⟨hg.block b h1 h2,((But.set D.lb 3 w5 _).block b (Nat.lt_of_lt_of_le h1 hg.size) h3).trans (hg.block b h1 h2)⟩⟩
theorem LyAt.oux {C:Nat} {w w1 w2:World} {D:LyS} {N:NetL} {sg:Nat→Int} {wd:Nat→Bool} {iv tv nv ov:Value} (h:LyAt C w D N sg wd iv tv nv ov) (hb:Bl w w1) {x:Int} (hg:w1.grownBy w2 ov.ownBlock) {g cap:Nat} (ho:w2.ownsRow C 3 1 (.slice (some ⟨g,0,none⟩) (N.outs.length+1) cap) (N.outs.length+1) (N.outs.map zV++[zV x])) (hp:ov.ownBlock=some g∨g=w1.heap.size) :
  LyAt C (w2.setCell ⟨D.lb,4,none⟩ (.slice (some ⟨g,0,none⟩) (N.outs.length+1) cap)) D { N with outs:=N.outs++[x] } sg wd iv tv nv (.slice (some ⟨g,0,none⟩) (N.outs.length+1) cap):=by
 have h1:=h.to hb
 have hg6:=(But.set D.lb 4 w2 (.slice (some ⟨g,0,none⟩) (N.outs.length+1) cap)).grown
 have nb:∀ b,b<C→some b≠ov.ownBlock:=fun b hb e=>by have:=own_newB h.oo b e.symm;omega
 have nx:∀ {e sz n:Nat} {y:Value} {xs:List Value},w1.ownsRow C e sz y n xs→FaV ov y→(w2.setCell ⟨D.lb,4,none⟩ (.slice (some ⟨g,0,none⟩) (N.outs.length+1) cap)).ownsRow C e sz y n xs:=fun hx hf=>own_kept (own_kept hx hg hf.or) hg6 (new_ne (own_newB hx) h.lt.1)
 have s1:=hb.size
 have hown:(w2.setCell ⟨D.lb,4,none⟩ (.slice (some ⟨g,0,none⟩) (N.outs.length+1) cap)).ownsRow C 3 1 (.slice (some ⟨g,0,none⟩) (N.outs.length+1) cap) (N.outs++[x]).length ((N.outs++[x]).map zV):=by
  rw [List.map_append,List.length_append]
  exact own_kept ho hg6 (new_ne (own_newB ho) h.lt.1)
 refine ⟨?_,?_,?_,nx h1.oi h.f6.symm,nx h1.ot h.f3.symm,nx h1.on h.f5.symm,hown,fun t ht=>?_,h.f1,h.f2,(h.f3.symm.new h.ot s1 (place_of hp)).symm,h.f4,(h.f5.symm.new h.on s1 (place_of hp)).symm,(h.f6.symm.new h.oi s1 (place_of hp)).symm,h.lt,by have:=hg6.size;have:=h1.le;have:=hg.size;omega,h.ne⟩
 ·exact (blk_kept h1.bk hg (nb _ h.lt.1)).set 4 _
 ·exact blk_kept (blk_kept h1.sg hg (nb _ h.lt.2.1)) hg6 (fun e=>h.ne.1 (by injection e with e;exact e.symm))
 ·exact blk_kept (blk_kept h1.wd hg (nb _ h.lt.2.2)) hg6 (fun e=>h.ne.2.1 (by injection e with e;exact e.symm))
 ·obtain ⟨k1,k2,k3,k4,k5⟩:=h1.ti t ht
  have k0:=(h.ti t ht).1
  exact ⟨nx k1 k5.symm,k2,k3,k4,(k5.symm.new k0 s1 (place_of hp)).symm⟩
theorem LyAt.ouxB {C C0:Nat} {w xc w5:World} {D:LyS} {N:NetL} {sg:Nat→Int} {wd:Nat→Bool} {iv tv nv ov:Value} (h:LyAt C w D N sg wd iv tv nv ov) (hb:Bl w xc) (hg:xc.grownBy w5 ov.ownBlock) (V:Value) (hC0:C0≤D.lb) :
  Below C0 w (w5.setCell ⟨D.lb,4,none⟩ V)∧(w5.cell? ⟨D.lb,4,none⟩=some ov∧w5.frozen? ⟨D.lb,4,none⟩=false)∧∀ b,b<xc.heap.size→some b≠ov.ownBlock→b≠D.lb→w5.heap[b]?=xc.heap[b]?∧(w5.setCell ⟨D.lb,4,none⟩ V).heap[b]?=xc.heap[b]?:=by
 have hCw:=h.le
 have hlC:=h.lt.1
 have b1:Below C0 w xc:=hb.mono (by omega)
 have b2:Below C0 xc w5:=grow_low hg (Nat.le_trans (by omega) b1.size) (fun k hk=>by have:=own_newB h.oo k hk;omega)
 have hb5:=blk_kept (h.bk.below hb) hg (fun e=>by have:=own_newB h.oo D.lb e.symm;omega)
 refine ⟨b1.trans (b2.trans ((But.set D.lb 4 w5 _).below hC0 (Nat.le_trans (by omega) (b1.trans b2).size))),⟨hb5.cell (i:=4) rfl,hb5.frozen 4⟩,fun b h1 h2 h3=>⟨hg.block b h1 h2,((But.set D.lb 4 w5 _).block b (Nat.lt_of_lt_of_le h1 hg.size) h3).trans (hg.block b h1 h2)⟩⟩
end Go.Proofs.Ytlaljeobdddegaa
