import Derived.Test.YtcbcenfjigcfkaaGreatDoorK45
set_option maxRecDepth 100000
set_option maxHeartbeats 40000000
namespace Go.Proofs.YtcbcenfjigcfkaaGreatDoor
open Go.RowKit
def EL (N:aR) (w:World) (e:Ending) (B:World):Prop:=∃G T c v,GL N G c∧e = .returned (.tuple #[.agg (jm.cells T G),v])∧iB B.heap.size B T G∧Js B v c 0∧V w B
theorem EL.of {N:aR} {w B:World} {G:eq} {T:jm} {c:Int} {v:Value} (F:GL N G c) (O:iB B.heap.size B T G) (aW:Js B v c 0) (cw:V w B):EL N w (.returned (.tuple #[.agg (jm.cells T G),v])) B:=⟨G,T,c,v,F,rfl,O,aW,cw⟩
theorem iB.out {w B:World} {S:jm} {G:eq} {C:Nat} (h:iB w.heap.size w S G) (ag:yo C S) (hs:w.heap.size<=B.heap.size) (X:∀k,C<=k->k<w.heap.size->B.heap[k]?=w.heap[k]?):iB B.heap.size B S G:=by
 have UV:∀{a:Option Addr} {gx:Nat} {kS:List (List Value)},cm w.heap.size w a gx kS->(∀b o,a=some ⟨b,o,none⟩->C<=b)->cm B.heap.size B a gx kS:=fun h ag ay=>by
  obtain⟨b,o,ad,aB,ar⟩:=h ay;exact⟨b,o,ad,bk aB hs,fun i cs F j x O=>(dA (X b (ag b o ad) aB)).trans (ar i cs F j x O)⟩
 exact⟨UV h.l ag.1,UV h.a ag.2.1,UV h.o ag.2.2,h.ll,h.la,h.lo⟩
theorem ak7 (Y:Nat) (w:World) (S:dp) (N:aR) (gV:eM Y w S N) (aM:Y<=w.heap.size) (aG:er N=true) (L:y6 w) (ut:1<=w.heap.size) (aI:N.ins.length<=1048576) (F:N.regs.length<=1048576) (O:N.mems.length<=1048576) (aW:N.wrs.length<=1048576) (cw:N.outs.length<=1048576) (hY:N.nodes.length<=1048576) (mX:∀d,d∈N.nodes->d.args.length<=1048576) :
  Calls Tryz.prog 7 #[.agg (S.cells N)] w (EL N w):=by
 have B8:∀(fn:Fn) (first cap:Array Value) (w:World),(Instr.makeFunc fn first cap).run Tryz.prog w = .ok (.func fn first cap) w:=fun _ _ _ _=>rfl
 have jq:=K L;have f5:=K gV;have kJ:=K aG;have pe:Hid (S.cells N=#[.slice S.a0 N.ins.length S.c0,.slice S.a1 N.nodes.length S.c1,.slice S.a2 N.regs.length S.c2,.slice S.a3 N.mems.length S.c3,.slice S.a4 N.wrs.length S.c4,.slice S.a5 N.outs.length S.c5]):=rfl;have HC:Hid (∀B,V w B->Calls Tryz.prog 24 #[.agg (S.cells N)] B fun e bs=>e = .returned (.bool true)∧V B bs):=fun B aV=>by
  have:=avP Y B S N (gV.to (aV.mono aM)) (bL aM aV.size)
  rw[aG] at this;exact this
 rw[pe.out] at HC ⊢
 change Hid _ at mX
 clear L gV aG;go_enter_defers Tryz.func7,Tryz.ntmps7
 go_upto_region 2 with fail
 generalize av:World.alloc (World.alloc (World.alloc w _) _) _=I;obtain⟨ab,cR⟩:=cf (w.heap.size);obtain⟨p,aE⟩:=cf (w.heap.size+1);obtain⟨q,aJ⟩:=cf (w.heap.size+1+1);have aD:Hid (V w I):=by rw[<-av];exact(((ax _ _).alloc (aL _) _).alloc (by simp) _).alloc (by simp;omega) _
 have gO:Hid (th I ab S N):=by
  have B2:=(K4 w S N).to (((ax _ _).alloc (aL _) (.cells #[.int .i64 0,.slice none 0 0,.slice none 0 0,.slice none 0 0] 38)).alloc (by simp) (.cells #[.nilIface] 40));rw[<-av,cR];exact B2
 have cl:Hid (I.heap[p]?=some (.cells #[.int .i64 0,.slice none 0 0,.slice none 0 0,.slice none 0 0] 38 (0,0))):=by
  rw[<-av,aE];show _=_;rw[heap_alloc_old _ _ (by simp)]
  have:=h8 (w.alloc (.cells (S.cells N) 28)) (.cells #[.int .i64 0,.slice none 0 0,.slice none 0 0,.slice none 0 0] 38)
  simp at this ⊢;exact this
 have iY:Hid (I.heap[q]?=some (.cells #[.nilIface] 40 (0,0))):=by
  rw[<-av,aJ]
  have:=h8 ((w.alloc (.cells (S.cells N) 28)).alloc (.cells #[.int .i64 0,.slice none 0 0,.slice none 0 0,.slice none 0 0] 38)) (.cells #[.nilIface] 40)
  show _=_;simp at this ⊢;exact this
 have anI:I.heap.size=w.heap.size+3:=by rw[<-av];simp
 rw[<-aJ,<-aE,<-cR];have qv:w.heap.size<=p:=by omega
 have NT:w.heap.size<=q:=by omega
 have mL:w.heap.size<=ab:=by omega
 have qu:p≠q:=by omega
 have Rm:p<I.heap.size:=by omega
 have Ro:q<I.heap.size:=by omega
 have iu:ab<I.heap.size:=by omega
 have nf:Hid (w.heap.size<=I.heap.size):=by show _<=_;omega
 clear av cR aE aJ anI;have c0:I.cell? ⟨ab,0,none⟩=some (.slice S.a0 N.ins.length S.c0):=gO 0 _ rfl;have c1:I.cell? ⟨ab,1,none⟩=some (.slice S.a1 N.nodes.length S.c1):=gO 1 _ rfl;have c2:I.cell? ⟨ab,2,none⟩=some (.slice S.a2 N.regs.length S.c2):=gO 2 _ rfl;have c3:I.cell? ⟨ab,3,none⟩=some (.slice S.a3 N.mems.length S.c3):=gO 3 _ rfl;have c4:I.cell? ⟨ab,4,none⟩=some (.slice S.a4 N.wrs.length S.c4):=gO 4 _ rfl;have c5:I.cell? ⟨ab,5,none⟩=some (.slice S.a5 N.outs.length S.c5):=gO 5 _ rfl;go_wp2_with fail
 go_at_call 24;refine(HC _ aD).mono ?_;rintro e w1 ⟨rfl,hR⟩;have bD:=K hR;have ot:Hid (V w w1):=aD.trans (hR.mono nf);have zl:=hR.size;clear hR HC c0 c1 c2 c3 c4 c5;have J5:=K (ave Y w1 ab S N (f5.to (ot.mono aM)) kJ (gO.to bD) F O cw);cases KS:O0 N
 ·rw[KS] at J5;have dg:=of_decide_eq_false KS;have lO:Hid (h4 N.regs+ha N.mems<=6000):=by show _<=_;omega
  have a6:Hid (ki N N.outs<=60000):=by show _<=_;omega
  clear KS dg;go_wp2_with fail
  go_at_call 26;refine J5.mono ?_;rintro e w2 ⟨rfl,bH⟩;have cg:Hid (V I w2):=bD.trans (bH.mono zl);have t9:Hid (V w w2):=aD.trans (cg.mono nf);have nt:=cg.size;clear bH J5;have nc:=K (f5.to (t9.mono aM));have Jq:=K (ale Y w2 ab S N nc (bL aM t9.size) kJ (gO.to cg) (by omega) aI F O aW cw hY mX lO a6);go_wp2_with fail
  go_at_call 27;refine Jq.mono ?_;rintro e w3 ⟨need,cb,QU⟩
  change Hid _ at cb
  clear Jq;rcases QU with ⟨ae,mH,rfl,aO,Wa,b8⟩ | ⟨ae,⟨mV,rfl,bq⟩,b8⟩
  ·have ch:Hid (lc (kc N need) (hH N.ins) (fZ N+(gU N need).1.length)):=ak9 nc kJ cb (by have:=RK kJ aI N.ins.length;rw[fQ (aL _)] at this;exact this) lO a6 ae;have aip:=K aO;have aja:Hid (yo w2.heap.size mH):=Wa;have go:Hid (V I w3):=cg.trans (b8.mono nt);have ua:Hid (V w w3):=aD.trans (go.mono nf);have em:=go.size;clear ae aO Wa b8;obtain⟨Pa,QD⟩:=cf (kc N need);rw[<-QD]
   change Hid _ at QD
   unfold jm.cells;go_upto_region 7 with fail
   generalize QN:World.alloc w3 _=f1;obtain⟨bJ,oa⟩:=cf (w3.heap.size);rw[<-oa];have GU:Hid (V w3 f1):=by rw[<-QN];exact(ax _ _).alloc (aL _) _
   have acX:bJ<f1.heap.size:=by rw[<-QN,oa];simp
   have LZ:Hid (f1.heap[bJ]?=some (.cells #[.int .i64 Pa.ins,.slice mH.a1 Pa.lats.length mH.c1,.slice mH.a2 Pa.ands.length mH.c2,.slice mH.a3 Pa.outs.length mH.c3] 38 (0,0))):=by rw[<-QN,oa];exact h8 _ _
   have Ir:=GU.size;have ad0:p≠bJ:=by omega
   have azu:q≠bJ:=by omega
   have ayu:w.heap.size<=bJ:=by have:=nf.out;omega
   have ait:Hid (o9 f1 bJ mH (kc N need)):=by rw[<-QD.out];exact⟨acX,f4 LZ,f4 LZ,f4 LZ,f4 LZ⟩
   have Zd:Hid (iB f1.heap.size f1 mH (kc N need)):=(aip.to GU).mono Ir;have aiC:Hid (V w f1):=ua.trans (GU.mono (by have:=nf.out;omega));have aji:=K ((GU.block p (by omega)).trans ((go.block p Rm).trans cl.out));have Mq:=K ((GU.block q (by omega)).trans ((go.block q Ro).trans iY.out));have ad2:p<f1.heap.size:=by omega
   have ao4:q<f1.heap.size:=by omega
   clear QN oa GU;have ot:=aiC;have YY:=K (alB (fun _=>True) f1.heap.size f1 bJ mH (kc N need) (hH N.ins) (fZ N+(gU N need).1.length) ch ait Zd (aL _) (auG _ _) (fun _ _=>trivial));go_wp2_with fail
   go_at_call 28;refine YY.mono ?_;rintro e al ⟨⟨RY,l5,ac7,rfl,ac2,Wb⟩,hR⟩;have Pl:=K ac7;have ZN:=K ac2;have L5:=K hR;obtain⟨kv,QF⟩:=cf (kg RY (kc N need));have ZG:=K QF;rw[<-QF] at ZN;rw[<-QF];have Hb:=K ((hR.block p ad2).trans aji.out);have aak:=K ((hR.block q ao4).trans Mq.out);have m6:al.cell? ⟨p,0,none⟩=_:=f4 Hb;have co:al.cell? ⟨p,1,none⟩=_:=f4 Hb;have hI:al.cell? ⟨p,2,none⟩=_:=f4 Hb;have lk:al.cell? ⟨p,3,none⟩=_:=f4 Hb;simp at m6 co hI lk;have pl:∀j,al.frozen? ⟨p,j,none⟩=false:=fun j=>FI Hb j
   change Hid _ at Wb
   clear ac7 ac2 hR YY QF;unfold jm.cells;go_upto_region 8 with fail
   generalize An:World.setCell _ (⟨p,3,none⟩:Addr) _=aH;have JQ:Hid (aH.heap[p]?=some (.cells #[.int .i64 kv.ins,.slice l5.a1 kv.lats.length l5.c1,.slice l5.a2 kv.ands.length l5.c2,.slice l5.a3 kv.outs.length l5.c3] 38 (0,0))):=by
    rw[<-An];exact OK Hb _ _ _ _
   have Tj:Hid (∀k:Nat,k≠p->aH.heap[k]?=al.heap[k]?):=fun k kK=>by
    rw[<-An,ku _ (Ne.symm kK),ku _ (Ne.symm kK),ku _ (Ne.symm kK),ku _ (Ne.symm kK)]
   have azz:aH.heap.size=al.heap.size:=by rw[<-An];simp[World.setCell]
   have aam:=K ((Tj q (Ne.symm qu)).trans aak.out);have azx:=L5.size;have Zz:Hid (al.grownBy aH (some p)):=by rw[<-An];exact OJ _ _ _ _ _ _
   have Pe:Hid (V w aH):=(ot.trans (L5.mono ot.size)).trans (jB Zz (bL ot.size L5.size) (fun k X=>by cases X;exact qv));have Jw:Hid (iB aH.heap.size aH l5 kv∧yo f1.heap.size l5):=⟨ZN.set Wb ad2 Zz,Wb⟩
   have GY:Hid (lc kv (hH N.ins) (g6 RY (fZ N+(gU N need).1.length))):=by rw[ZG.out];exact W7 ch Pl.good Pl.roots
   have adY:p<aH.heap.size:=by omega
   have Zk:Hid (o9 aH p l5 kv):=⟨adY,f4 JQ,f4 JQ,f4 JQ,f4 JQ⟩
   have anq:=Jw.1.ll;have ano:=Jw.1.la;have PZ:Hid (∀m:Nat,Calls Tryz.prog 29 #[.pointer (some ⟨p,0,none⟩)] (aH.drewN m) fun e B=>e = .returned (.int .i64 (g6 RY (fZ N+(gU N need).1.length):Nat))∧∃n,B=(aH.drewN m).drewN n):=fun m=>by
    have U7:V aH (aH.drewN m):=Below.drewN (ax _ _) _
    have:=SG (aH.drewN m) p l5 kv (Zk.to adY U7) (by rw[GY.ins];omega) (by have:=GY.first;have:=GY.all;have:=GY.le;rw[GY.ins];omega) Jw.1.ll Jw.1.la
    rw[Qn GY.out] at this;exact this
   clear An m6 co hI lk pl Hb aak Zk anq ano;obtain⟨n1,mb⟩:=cf (g6 RY (fZ N+(gU N need).1.length));have zU:=K mb;have azl:n1<=100000000:=by rw[mb];exact GY.le
   rw[<-mb] at PZ;clear mb;by_cases oY:n1<=60000
   ·have an4:¬((60000:Int)<(n1:Int)):=by omega
    go_wp2_with fail
    go_at_call 29;refine(PZ 0).mono ?_;rintro e dN ⟨rfl,ach,xE⟩;rw[xE]
    change Hid _ at xE
    go_upto_region 10 with fail
    go_wp2_with fail
    go_at_call 29;refine(PZ ach).mono ?_;rintro e g0 ⟨rfl,axF,Ry⟩;have JL:Hid (∀k:Nat,g0.heap[k]?=aH.heap[k]?):=fun k=>by rw[Ry];rfl
    have w4:Hid (V aH g0):=by rw[Ry];exact Below.drewN (Below.drewN (ax _ _) _) _
    have NX:g0.heap.size=aH.heap.size:=by rw[Ry];rfl
    clear Ry xE;have SZ:Hid (iB g0.heap.size g0 l5 kv∧yo f1.heap.size l5):=⟨(Jw.1.to w4).mono (by omega),Jw.2⟩
    have yj:=K ((JL p).trans JQ.out);have Hf:=K ((JL q).trans aam.out);have L1:=K SZ;have Tc:=K (show GL N kv 0 by rw[ZG.out];exact abS nc kJ cb lO ch Pl (by rw[<-zU.out];exact oY));have S5:=K (Pe.trans (w4.mono Pe.size));have m6:g0.cell? ⟨p,0,none⟩=some (.int .i64 kv.ins):=f4 yj;have co:g0.cell? ⟨p,1,none⟩=some (.slice l5.a1 kv.lats.length l5.c1):=f4 yj;have hI:g0.cell? ⟨p,2,none⟩=some (.slice l5.a2 kv.ands.length l5.c2):=f4 yj;have lk:g0.cell? ⟨p,3,none⟩=some (.slice l5.a3 kv.outs.length l5.c3):=f4 yj;have gq:g0.cell? ⟨q,0,none⟩=some .nilIface:=f4 Hf;have pl:∀j,g0.frozen? ⟨p,j,none⟩=false:=fun j=>FI yj j
    have kT:∀j,g0.frozen? ⟨q,j,none⟩=false:=fun j=>FI Hf j
    go_wp2_with fail
    generalize tl:World.setCell _ (⟨q,0,none⟩:Addr) _=gH;have C3:Hid (gH.heap[p]?=some (.cells #[.int .i64 kv.ins,.slice l5.a1 kv.lats.length l5.c1,.slice l5.a2 kv.ands.length l5.c2,.slice l5.a3 kv.outs.length l5.c3] 38 (0,0))):=by
     rw[<-tl,ku _ (Ne.symm qu)];exact OK yj _ _ _ _
    have TG:Hid (gH.heap[q]?=some (.cells #[.nilIface] 40 (0,0))):=by
     rw[<-tl];refine(Je (cs:=#[.nilIface]) ?_).trans rfl;rw[ku _ qu,ku _ qu,ku _ qu,ku _ qu];exact Hf
    have G5:Hid (∀k:Nat,k≠p->k≠q->k<g0.heap.size->gH.heap[k]?=g0.heap[k]?):=fun k kK bz _=>by
     rw[<-tl,ku _ (Ne.symm bz),ku _ (Ne.symm kK),ku _ (Ne.symm kK),ku _ (Ne.symm kK),ku _ (Ne.symm kK)]
    have Rw:gH.heap.size=g0.heap.size:=by rw[<-tl];simp[World.setCell]
    have CP:Hid (V w gH):=OS S5 (by omega) (by rw[<-tl];rfl) (by rw[<-tl];rfl) (by rw[<-tl];rfl) G5 qv NT;have S0:Hid (iB gH.heap.size gH l5 kv):=L1.1.out L1.2 (by omega) (fun k X bz=>G5 k (by omega) (by omega) bz);have oK:gH.cell? ⟨p,0,none⟩=some (.int .i64 kv.ins):=f4 C3;have iA:gH.cell? ⟨p,1,none⟩=some (.slice l5.a1 kv.lats.length l5.c1):=f4 C3;have jW:gH.cell? ⟨p,2,none⟩=some (.slice l5.a2 kv.ands.length l5.c2):=f4 C3;have l0:gH.cell? ⟨p,3,none⟩=some (.slice l5.a3 kv.outs.length l5.c3):=f4 C3;have s3:gH.cell? ⟨q,0,none⟩=some .nilIface:=f4 TG;clear tl m6 co hI lk gq pl kT Rw;go_wp2_with fail
    refine leaves_cons (f:=22) (args:=#[.pointer (some ⟨p,0,none⟩),.pointer (some ⟨q,0,none⟩)]) (by simp) (by simp[go_sem]) ?_;refine(ab4 ⟨p,0,none⟩ ⟨q,0,none⟩ _).mono ?_;rintro e g7 bs ⟨rfl,rfl,rfl⟩;simp[Leaves,settle,results,Tryz.results7,go_sem,oK,iA,jW,l0,s3];exact EL.of Tc S0 (.inl ⟨rfl,rfl,rfl⟩) CP
   ·have an4:(60000:Int)<(n1:Int):=by omega
    go_wp2_with fail
    go_at_call 29;refine(PZ 0).mono ?_;rintro e dN ⟨rfl,ach,xE⟩;have G4:Hid (∀k:Nat,dN.heap[k]?=aH.heap[k]?):=fun k=>by rw[xE];rfl
    have ye:Hid (V aH dN):=by rw[xE];exact Below.drewN (Below.drewN (ax _ _) _) _
    have Rv:dN.heap.size=aH.heap.size:=by rw[xE];rfl
    clear xE;have aiu:Hid (o9 dN bJ mH (kc N need)):=by
     have iK:dN.heap[bJ]?=f1.heap[bJ]?:=(G4 bJ).trans ((Tj bJ (Ne.symm ad0)).trans (L5.block bJ acX));have B2:=iK.trans LZ;rw[<-QD.out];exact⟨by omega,f4 B2,f4 B2,f4 B2,f4 B2⟩
    have aio:Hid (iB dN.heap.size dN mH (kc N need)):=Zd.out.out aja (by omega) (fun k F O=>(G4 k).trans ((Tj k (by omega)).trans (L5.block k O)));have C2:=K ((G4 p).trans JQ.out);have JS:=K ((G4 q).trans aam.out);have ad3:p<dN.heap.size:=by omega
    have ao5:q<dN.heap.size:=by omega
    have aiD:Hid (V w dN):=Pe.trans (ye.mono Pe.size);have t9:=aiD;have YZ:=K (alC (fun v=>N.nodes.length=0->v<=hH N.ins) dN.heap.size dN bJ mH (kc N need) (hH N.ins) (fZ N+(gU N need).1.length) ch aiu aio (aL _) (auF kJ) (fun v L _=>by omega));go_wp2_with fail
    go_at_call 28;refine YZ.mono ?_;rintro e g0 ⟨⟨Gb,l6,ac8,rfl,Nl,Wc⟩,bH⟩;have Pm:=K ac8;have ZO:=K Nl;have S4:=K bH;obtain⟨jX,QG⟩:=cf (kg Gb (kc N need));have ZH:=K QG;rw[<-QG] at ZO;rw[<-QG];have Hc:=K ((bH.block p ad3).trans C2.out);have aal:=K ((bH.block q ao5).trans JS.out);have m6:g0.cell? ⟨p,0,none⟩=_:=f4 Hc;have co:g0.cell? ⟨p,1,none⟩=_:=f4 Hc;have hI:g0.cell? ⟨p,2,none⟩=_:=f4 Hc;have lk:g0.cell? ⟨p,3,none⟩=_:=f4 Hc;simp at m6 co hI lk;have pl:∀j,g0.frozen? ⟨p,j,none⟩=false:=fun j=>FI Hc j
    change Hid _ at Wc
    clear ac8 Nl bH YZ QG;unfold jm.cells;go_upto_region 10 with fail
    generalize An:World.setCell _ (⟨p,3,none⟩:Addr) _=eQ;have JR:Hid (eQ.heap[p]?=some (.cells #[.int .i64 jX.ins,.slice l6.a1 jX.lats.length l6.c1,.slice l6.a2 jX.ands.length l6.c2,.slice l6.a3 jX.outs.length l6.c3] 38 (0,0))):=by
     rw[<-An];exact OK Hc _ _ _ _
    have aiS:Hid (∀k:Nat,k≠p->eQ.heap[k]?=g0.heap[k]?):=fun k kK=>by
     rw[<-An,ku _ (Ne.symm kK),ku _ (Ne.symm kK),ku _ (Ne.symm kK),ku _ (Ne.symm kK)]
    have azA:eQ.heap.size=g0.heap.size:=by rw[<-An];simp[World.setCell]
    have aan:=K ((aiS q (Ne.symm qu)).trans aal.out);have azy:=S4.size;have ZA:Hid (g0.grownBy eQ (some p)):=by rw[<-An];exact OJ _ _ _ _ _ _
    have EP:Hid (V w eQ):=(t9.trans (S4.mono t9.size)).trans (jB ZA (bL t9.size S4.size) (fun k X=>by cases X;exact qv));have Jx:Hid (iB eQ.heap.size eQ l6 jX∧yo dN.heap.size l6):=⟨ZO.set Wc ad3 ZA,Wc⟩
    have GZ:Hid (lc jX (hH N.ins) (g6 Gb (fZ N+(gU N need).1.length))):=by rw[ZH.out];exact W7 ch Pm.good Pm.roots
    have adZ:p<eQ.heap.size:=by omega
    have Zl:Hid (o9 eQ p l6 jX):=⟨adZ,f4 JR,f4 JR,f4 JR,f4 JR⟩
    have anr:=Jx.1.ll;have anp:=Jx.1.la;have Ud:Hid (∀m:Nat,Calls Tryz.prog 29 #[.pointer (some ⟨p,0,none⟩)] (eQ.drewN m) fun e B=>e = .returned (.int .i64 (g6 Gb (fZ N+(gU N need).1.length):Nat))∧∃n,B=(eQ.drewN m).drewN n):=fun m=>by
     have U7:V eQ (eQ.drewN m):=Below.drewN (ax _ _) _
     have:=SG (eQ.drewN m) p l6 jX (Zl.to adZ U7) (by rw[GZ.ins];omega) (by have:=GZ.first;have:=GZ.all;have:=GZ.le;rw[GZ.ins];omega) Jx.1.ll Jx.1.la
     rw[Qn GZ.out] at this;exact this
    clear An m6 co hI lk pl Hc aal Zl anr anp;obtain⟨mv,j3⟩:=cf (g6 Gb (fZ N+(gU N need).1.length));have BC:=K j3;have azn:mv<=100000000:=by rw[j3];exact GZ.le
    rw[<-j3] at Ud;clear j3;by_cases anW:mv<=60000
    ·have an5:¬((60000:Int)<(mv:Int)):=by omega
     go_wp2_with fail
     go_at_call 29;refine(Ud 0).mono ?_;rintro e gS ⟨rfl,alX,DO⟩;have JL:Hid (∀k:Nat,gS.heap[k]?=eQ.heap[k]?):=fun k=>by rw[DO];rfl
     have w4:Hid (V eQ gS):=by rw[DO];exact Below.drewN (Below.drewN (ax _ _) _) _
     have NX:gS.heap.size=eQ.heap.size:=by rw[DO];rfl
     clear DO;have SZ:Hid (iB gS.heap.size gS l6 jX∧yo dN.heap.size l6):=⟨(Jx.1.to w4).mono (by omega),Jx.2⟩
     have yj:=K ((JL p).trans JR.out);have Hf:=K ((JL q).trans aan.out);have L1:=K SZ;have Tc:=K (show GL N jX 0 by rw[ZH.out];exact abS nc kJ cb lO ch Pm (by rw[<-BC.out];exact anW));have S5:=K (EP.trans (w4.mono EP.size));have m6:gS.cell? ⟨p,0,none⟩=some (.int .i64 jX.ins):=f4 yj;have co:gS.cell? ⟨p,1,none⟩=some (.slice l6.a1 jX.lats.length l6.c1):=f4 yj;have hI:gS.cell? ⟨p,2,none⟩=some (.slice l6.a2 jX.ands.length l6.c2):=f4 yj;have lk:gS.cell? ⟨p,3,none⟩=some (.slice l6.a3 jX.outs.length l6.c3):=f4 yj;have gq:gS.cell? ⟨q,0,none⟩=some .nilIface:=f4 Hf;have pl:∀j,gS.frozen? ⟨p,j,none⟩=false:=fun j=>FI yj j
     have kT:∀j,gS.frozen? ⟨q,j,none⟩=false:=fun j=>FI Hf j
     go_wp2_with fail
     generalize tl:World.setCell _ (⟨q,0,none⟩:Addr) _=gH;have C3:Hid (gH.heap[p]?=some (.cells #[.int .i64 jX.ins,.slice l6.a1 jX.lats.length l6.c1,.slice l6.a2 jX.ands.length l6.c2,.slice l6.a3 jX.outs.length l6.c3] 38 (0,0))):=by
      rw[<-tl,ku _ (Ne.symm qu)];exact OK yj _ _ _ _
     have TG:Hid (gH.heap[q]?=some (.cells #[.nilIface] 40 (0,0))):=by
      rw[<-tl];refine(Je (cs:=#[.nilIface]) ?_).trans rfl;rw[ku _ qu,ku _ qu,ku _ qu,ku _ qu];exact Hf
     have G5:Hid (∀k:Nat,k≠p->k≠q->k<gS.heap.size->gH.heap[k]?=gS.heap[k]?):=fun k kK bz _=>by
      rw[<-tl,ku _ (Ne.symm bz),ku _ (Ne.symm kK),ku _ (Ne.symm kK),ku _ (Ne.symm kK),ku _ (Ne.symm kK)]
     have Rw:gH.heap.size=gS.heap.size:=by rw[<-tl];simp[World.setCell]
     have CP:Hid (V w gH):=OS S5 (by omega) (by rw[<-tl];rfl) (by rw[<-tl];rfl) (by rw[<-tl];rfl) G5 qv NT;have S0:Hid (iB gH.heap.size gH l6 jX):=L1.1.out L1.2 (by omega) (fun k X bz=>G5 k (by omega) (by omega) bz);have oK:gH.cell? ⟨p,0,none⟩=some (.int .i64 jX.ins):=f4 C3;have iA:gH.cell? ⟨p,1,none⟩=some (.slice l6.a1 jX.lats.length l6.c1):=f4 C3;have jW:gH.cell? ⟨p,2,none⟩=some (.slice l6.a2 jX.ands.length l6.c2):=f4 C3;have l0:gH.cell? ⟨p,3,none⟩=some (.slice l6.a3 jX.outs.length l6.c3):=f4 C3;have s3:gH.cell? ⟨q,0,none⟩=some .nilIface:=f4 TG;clear tl m6 co hI lk gq pl kT Rw;go_wp2_with fail
     refine leaves_cons (f:=22) (args:=#[.pointer (some ⟨p,0,none⟩),.pointer (some ⟨q,0,none⟩)]) (by simp) (by simp[go_sem]) ?_;refine(ab4 ⟨p,0,none⟩ ⟨q,0,none⟩ _).mono ?_;rintro e g7 bs ⟨rfl,rfl,rfl⟩;simp[Leaves,settle,results,Tryz.results7,go_sem,oK,iA,jW,l0,s3];exact EL.of Tc S0 (.inl ⟨rfl,rfl,rfl⟩) CP
    ·have an5:(60000:Int)<(mv:Int):=by omega
     go_wp2_with fail
     go_at_call 29;refine(Ud 0).mono ?_;rintro e gS ⟨rfl,alX,DO⟩;have JL:Hid (∀k:Nat,gS.heap[k]?=eQ.heap[k]?):=fun k=>by rw[DO];rfl
     have w4:Hid (V eQ gS):=by rw[DO];exact Below.drewN (Below.drewN (ax _ _) _) _
     have NX:gS.heap.size=eQ.heap.size:=by rw[DO];rfl
     clear DO;go_wp2_with fail
     go_at_call 25;refine(So 11 0 _).mono ?_;rintro e SJ ⟨rfl,bq,b8⟩;have CP:Hid (V eQ SJ):=w4.trans (b8.mono (by omega));obtain⟨mV,DA⟩:=cf (gS.heap.size);rw[<-DA] at bq ⊢;have ET:Hid (mV≠p∧mV≠q):=⟨by omega,by omega⟩
     clear b8 DA;have LV:=K (Uv p q mV _ _ _ _ _ SJ (jq.to (EP.trans (CP.mono EP.size)) ut) (bL ut ((EP.trans (CP.mono EP.size))).size) ((CP.block p (by omega)).trans JR.out) ((CP.block q (by omega)).trans aan.out) qu);have CV:=K bq;have mE:=K (EP.trans (CP.mono EP.size));unfold fI;go_wp2;refine leaves_cons (f:=22) (args:=#[.pointer (some ⟨p,0,none⟩),.pointer (some ⟨q,0,none⟩)]) (by simp) (by simp[go_sem]) ?_;refine LV.mono ?_;rintro e g7 gH ⟨rfl,rfl,tk,FA,MM,D,aY,eg,FU,gY,X⟩;have xw:=D.size;have cV:Hid (V w gH):=OS (w1:=MM) (mE.trans (D.mono mE.size)) (by omega) (aY.trans D.os.symm) (eg.trans D.tape.symm) (FU.trans D.output.symm) (fun k F O _=>X k F O) qv NT;have rf:Hid (qG gH mV 11 0):=by
      have h:=CV.to D;have aW:=X mV (by exact ET.1) (by exact ET.2);exact⟨by rw[gY];exact h.lt,(dA aW).trans h.c0,(dA aW).trans h.c1⟩
     have oK:gH.cell? ⟨p,0,none⟩=some (.int .i64 0):=f4 tk;have iA:gH.cell? ⟨p,1,none⟩=some (.slice none 0 0):=f4 tk;have jW:gH.cell? ⟨p,2,none⟩=some (.slice none 0 0):=f4 tk;have l0:gH.cell? ⟨p,3,none⟩=some (.slice none 0 0):=f4 tk;have s3:gH.cell? ⟨q,0,none⟩=some (.iface 73 (.pointer (some ⟨mV,0,none⟩))):=f4 FA;clear tk FA D aY eg FU gY X;simp[Leaves,settle,results,Tryz.results7,go_sem,oK,iA,jW,l0,s3];exact EL.of (G:=SR) (T:=SS) (alb nc kJ cb lO Pm Pl (by rw[<-zU.out];omega) (by rw[<-BC.out];omega) _) (YM _ _) (.inr ⟨mV,rfl,rf⟩) cV
  ·have bd:=K (ava nc kJ cb ae);have go:Hid (V I w3):=cg.trans (b8.mono nt);have ET:Hid (mV≠p∧mV≠q):=⟨fun e=>by
     have zc:=bq.c1;rw[e,f4 ((go.block p Rm).trans cl.out)] at zc;simp at zc,fun e=>by
     have zc:=bq.c0;rw[e,f4 ((go.block q Ro).trans iY.out)] at zc;simp at zc⟩
   have LV:=K (Uv p q mV _ _ _ _ _ w3 (jq.to (aD.trans (go.mono nf)) ut) (bL ut ((aD.trans (go.mono nf))).size) ((go.block p Rm).trans cl.out) ((go.block q Ro).trans iY.out) qu);have CV:=K bq;have mE:=K (aD.trans (go.mono nf));unfold fI;go_wp2;refine leaves_cons (f:=22) (args:=#[.pointer (some ⟨p,0,none⟩),.pointer (some ⟨q,0,none⟩)]) (by simp) (by simp[go_sem]) ?_;refine LV.mono ?_;rintro e g7 gH ⟨rfl,rfl,tk,FA,MM,D,aY,eg,FU,gY,X⟩;have xw:=D.size;have cV:Hid (V w gH):=OS (w1:=MM) (mE.trans (D.mono mE.size)) (by omega) (aY.trans D.os.symm) (eg.trans D.tape.symm) (FU.trans D.output.symm) (fun k F O _=>X k F O) qv NT;have rf:Hid (qG gH mV 11 0):=by
    have h:=CV.to D;have aW:=X mV (by exact ET.1) (by exact ET.2);exact⟨by rw[gY];exact h.lt,(dA aW).trans h.c0,(dA aW).trans h.c1⟩
   have oK:gH.cell? ⟨p,0,none⟩=some (.int .i64 0):=f4 tk;have iA:gH.cell? ⟨p,1,none⟩=some (.slice none 0 0):=f4 tk;have jW:gH.cell? ⟨p,2,none⟩=some (.slice none 0 0):=f4 tk;have l0:gH.cell? ⟨p,3,none⟩=some (.slice none 0 0):=f4 tk;have s3:gH.cell? ⟨q,0,none⟩=some (.iface 73 (.pointer (some ⟨mV,0,none⟩))):=f4 FA;clear tk FA D aY eg FU gY X;simp[Leaves,settle,results,Tryz.results7,go_sem,oK,iA,jW,l0,s3];exact EL.of (G:=SR) (T:=SS) (.inr ⟨rfl,.inr (.inr bd.out)⟩) (YM _ _) (.inr ⟨mV,rfl,rf⟩) cV
 ·rw[KS] at J5;have dg:=jN KS;have PH:Hid (6000<h4 N.regs+ha N.mems∨60000<ki N N.outs):=by show _∨_;omega
  clear KS dg;go_wp2_with fail
  go_at_call 26;refine J5.mono ?_;rintro e w2 ⟨rfl,bH⟩;have cg:Hid (V I w2):=bD.trans (bH.mono zl);have nt:=cg.size;clear bH J5;go_wp2_with fail
  go_at_call 25;refine(So 11 0 w2).mono ?_;rintro e w3 ⟨rfl,bq,b8⟩;have go:Hid (V I w3):=cg.trans (b8.mono nt);obtain⟨mV,DA⟩:=cf (w2.heap.size);rw[<-DA] at bq ⊢;have ET:Hid (mV≠p∧mV≠q):=⟨by omega,by omega⟩
  clear b8 DA;have LV:=K (Uv p q mV _ _ _ _ _ w3 (jq.to (aD.trans (go.mono nf)) ut) (bL ut ((aD.trans (go.mono nf))).size) ((go.block p Rm).trans cl.out) ((go.block q Ro).trans iY.out) qu);have CV:=K bq;have mE:=K (aD.trans (go.mono nf));unfold fI;go_wp2;refine leaves_cons (f:=22) (args:=#[.pointer (some ⟨p,0,none⟩),.pointer (some ⟨q,0,none⟩)]) (by simp) (by simp[go_sem]) ?_;refine LV.mono ?_;rintro e g7 gH ⟨rfl,rfl,tk,FA,MM,D,aY,eg,FU,gY,X⟩;have xw:=D.size;have cV:Hid (V w gH):=OS (w1:=MM) (mE.trans (D.mono mE.size)) (by omega) (aY.trans D.os.symm) (eg.trans D.tape.symm) (FU.trans D.output.symm) (fun k F O _=>X k F O) qv NT;have rf:Hid (qG gH mV 11 0):=by
   have h:=CV.to D;have aW:=X mV (by exact ET.1) (by exact ET.2);exact⟨by rw[gY];exact h.lt,(dA aW).trans h.c0,(dA aW).trans h.c1⟩
  have oK:gH.cell? ⟨p,0,none⟩=some (.int .i64 0):=f4 tk;have iA:gH.cell? ⟨p,1,none⟩=some (.slice none 0 0):=f4 tk;have jW:gH.cell? ⟨p,2,none⟩=some (.slice none 0 0):=f4 tk;have l0:gH.cell? ⟨p,3,none⟩=some (.slice none 0 0):=f4 tk;have s3:gH.cell? ⟨q,0,none⟩=some (.iface 73 (.pointer (some ⟨mV,0,none⟩))):=f4 FA;clear tk FA D aY eg FU gY X;simp[Leaves,settle,results,Tryz.results7,go_sem,oK,iA,jW,l0,s3];exact EL.of (G:=SR) (T:=SS) (.inr ⟨rfl,PH.elim .inl (fun h=> .inr (.inl h))⟩) (YM _ _) (.inr ⟨mV,rfl,rf⟩) cV
end Go.Proofs.YtcbcenfjigcfkaaGreatDoor
