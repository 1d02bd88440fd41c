import Derived.Test.YtcbcenfjigcfkaaGreatDoorK14
set_option maxRecDepth 100000
set_option maxHeartbeats 40000000
namespace Go.Proofs.YtcbcenfjigcfkaaGreatDoor
open Go.RowKit
theorem awB (N:aR) (z:jz):o6 N z=(decide (0<=z.mem∧z.mem<(N.mems.length:Int))&&j7 N z.when_ 1&&mO N z.addr&&j7 N z.data (qy N z.mem)):=by
 rw[iI];simp only[o6,mO,Bool.and_eq_true,decide_eq_true_eq]
 constructor
 ·rintro⟨⟨⟨a1,a2,a3,a4⟩,b⟩,c⟩;exact⟨⟨⟨⟨a1,a2⟩,b⟩,⟨a3,a4⟩⟩,c⟩
 ·rintro⟨⟨⟨⟨a1,a2⟩,b⟩,⟨a3,a4⟩⟩,c⟩;exact⟨⟨⟨a1,a2,a3,a4⟩,b⟩,c⟩
theorem awJ (Y:Nat) (w:World) (a7:Nat) (S:dp) (N:aR) (h:mn Y w a7 S N) (aM:Y<=w.heap.size) (k:Nat) (z:jz) (ao:N.wrs[k]?=some z) :
  Calls Tryz.prog 45 #[iF a7,.int .i64 k] w fun e B=>e = .returned (.bool (o6 N z))∧V w B:=by
 obtain⟨b,o,ad,aB,ar⟩:=h.net.wr.el ao;have X:(k:Int)<(N.wrs.length:Int):=by have:=(cr.1 ao).1;omega
 have c0:w.cell? ⟨b,o+k*4,none⟩=_:=ar 0 _ rfl;have c1:=ar 1 _ rfl;have c2:=ar 2 _ rfl;have c3:=ar 3 _ rfl;have D:b<w.heap.size:=bk aB aM;have fH:w.cell? ⟨a7,3,none⟩=some (.slice S.a3 N.mems.length S.c3):=h.cells 3;have h3:w.cell? ⟨a7,4,none⟩=some (.slice S.a4 N.wrs.length S.c4):=h.cells 4;rw[ad] at h3;have xx:a7<w.heap.size:=bk h.lt aM;have gT:=K (awB N z);have MJ:Hid (∀B,V w B->Calls Tryz.prog 70 #[iF a7,.int .i64 z.when_,.int .i64 1] B fun e bs=>e = .returned (.bool (j7 N z.when_ 1))∧V B bs):=fun B aV=>Vw Y B a7 S N (h.to (aV.mono aM)) (bL aM aV.size) _ _
 have MK:Hid (∀B,V w B->Calls Tryz.prog 47 #[iF a7,.int .i64 z.addr] B fun e bs=>e = .returned (.bool (mO N z.addr))∧V B bs):=fun B aV=>W1 Y B a7 S N (h.to (aV.mono aM)) (bL aM aV.size) _
 have ML:Hid (∀B,V w B->Calls Tryz.prog 70 #[iF a7,.int .i64 z.data,.int .i64 (qy N z.mem)] B fun e bs=>e = .returned (.bool (j7 N z.data (qy N z.mem)))∧V B bs):=fun B aV=>Vw Y B a7 S N (h.to (aV.mono aM)) (bL aM aV.size) _ _
 rw[gT.out];have Mm:Hid (0<=z.mem∧z.mem<(N.mems.length:Int)->∃M im,S.a3=some ⟨M,im,none⟩∧M<w.heap.size∧w.cell? ⟨M,im+z.mem.toNat*2,none⟩=some (.int .i64 (qy N z.mem))):=by
  rintro⟨bY,bK⟩;obtain⟨m,ae⟩:∃m,N.mems[z.mem.toNat]?=some m:=⟨N.mems[z.mem.toNat]'(by omega),ct (by omega)⟩
  obtain⟨M,im,nk,o0,lG⟩:=h.net.m.el ae;refine⟨M,im,nk,bk o0 aM,?_⟩
  have:qy N z.mem=m.width:=by unfold qy;rw[ae];rfl
  rw[this];exact lG 0 _ rfl
 clear gT ad ar h ao;obtain⟨rO,CG,e9,da⟩:=z;simp only at c0 c1 c2 c3 MJ MK ML Mm ⊢;generalize qy N rO=jf at *;generalize j7 N CG 1=b1 at *;generalize mO N e9=b2 at *;generalize j7 N da jf=b3 at *;unfold iF at *;by_cases bY:0<=rO
 ·by_cases bK:rO<(N.mems.length:Int)
  ·obtain⟨M,im,nk,o0,m0⟩:=Mm ⟨bY,bK⟩;have U:decide (0<=rO∧rO<(N.mems.length:Int))=true:=by rw[s5];exact⟨bY,bK⟩
   rw[U];rw[nk] at fH;clear U Mm nk;go_enter Tryz.func45,Tryz.ntmps45
   go_wp2_with fail
   generalize av:w.alloc (.cells #[.pointer (some ⟨a7,0,none⟩)] 94)=I;have aD:Hid (V w I):=by rw[<-av];exact(ax _ _).alloc (aL _) _
   have Cu:I.cell? ⟨w.heap.size,0,none⟩=some (.pointer (some ⟨a7,0,none⟩)):=by rw[<-av];simp
   have a8:w.heap.size<I.heap.size:=by rw[<-av];simp
   clear av;have af0:=(aD.cell (p:=⟨b,o+k*4,none⟩) D).trans c0;have atQ:=(aD.cell (p:=⟨a7,3,none⟩) xx).trans fH;go_quiet (fail)
   go_wp2_with fail
   generalize hy:World.drewN I _=aC;have jq:Hid (V I aC):=by rw[<-hy];exact Below.drewN (ax _ _) _
   have fE:Hid (V w aC):=aD.trans (jq.mono aD.size);clear hy;have Nc:w.heap.size<aC.heap.size:=bk a8 jq.size;have azW:=(fE.cell (p:=⟨b,o+k*4,none⟩) D).trans c0;have azX:=(fE.cell (p:=⟨b,o+k*4+1,none⟩) D).trans c1;have azY:=(fE.cell (p:=⟨b,o+k*4+2,none⟩) D).trans c2;have azZ:=(fE.cell (p:=⟨b,o+k*4+3,none⟩) D).trans c3;have az1:=(fE.cell (p:=⟨M,im+rO.toNat*2,none⟩) o0).trans m0;have afS:=(jq.cell (p:=⟨w.heap.size,0,none⟩) a8).trans Cu;have az0:=(fE.cell (p:=⟨a7,3,none⟩) xx).trans fH;have ayy:b<aC.heap.size:=Nat.lt_trans D Nc;have ayD:a7<aC.heap.size:=Nat.lt_trans xx Nc;have azg:M<aC.heap.size:=Nat.lt_trans o0 Nc;have HD:Hid (∀B,V aC B->Calls Tryz.prog 70 #[.agg #[.pointer (some ⟨a7,0,none⟩)],.int .i64 CG,.int .i64 1] B fun e bs=>e = .returned (.bool b1)∧V B bs):=fun B aV=>MJ B (fE.trans (aV.mono fE.size))
   have qN:Hid (∀B,V aC B->Calls Tryz.prog 47 #[.agg #[.pointer (some ⟨a7,0,none⟩)],.int .i64 e9] B fun e bs=>e = .returned (.bool b2)∧V B bs):=fun B aV=>MK B (fE.trans (aV.mono fE.size))
   have akj:Hid (∀B,V aC B->Calls Tryz.prog 70 #[.agg #[.pointer (some ⟨a7,0,none⟩)],.int .i64 da,.int .i64 jf] B fun e bs=>e = .returned (.bool b3)∧V B bs):=fun B aV=>ML B (fE.trans (aV.mono fE.size))
   clear c0 c1 c2 c3 fH h3 MJ MK ML af0 atQ Cu m0 jq aD;cases b1
   ·refine mR ?_;refine ih (S:=(fun B=>V aC B∧(∀bw o,bw<aC.heap.size->B.cell? ⟨bw,o,none⟩=aC.cell? ⟨bw,o,none⟩))) (by kernel_rfl) (by(first | assumption | exact gl (ax _ _) | exact gl (ax _ _).drew | exact lL (by assumption) (by assumption))) (fun ii=>?_);refine R 0 ?_;refine R 1 ?_;refine R 2 ?_;refine R 3 ?_;refine R 4 ?_;refine R 5 ?_;refine R 6 ?_;refine rd 7 fun aj W=>?_
    (try simp only[bf,bg,bh]);go_simp;go_at_call 70;refine(HD _ (And.left (by assumption))).mono ?_;rintro e w2 ⟨rfl,bH⟩;go_wp2_with fail
    refine W.out _ _ (by(first | assumption | exact gl (ax _ _) | exact gl (ax _ _).drew | exact lL (by assumption) (by assumption))) (fun oC=>?_);clear W aj;try simp only[Act.put,mP,mh,mi]
    refine R 8 ?_;refine R 9 ?_;refine fR 10 ?_;refine fR 11 ?_;refine fR 12 ?_;refine fR 13 ?_;refine fR 14 ?_;refine fR 15 ?_;refine R 16 ?_;refine R 17 ?_;refine fR 18 ?_;refine fR 19 ?_;refine fR 20 ?_;refine fR 21 ?_;refine fR 22 ?_;refine fR 23 ?_;refine fR 24 ?_;refine fR 25 ?_;refine fR 26 ?_;refine fR 27 ?_;refine fR 28 ?_;refine fR 29 ?_;refine fR 30 ?_;refine fR 31 ?_;refine fR 32 ?_;refine fR 33 ?_;refine fR 34 ?_;refine fR 35 ?_;refine R 36 ?_;refine R 37 ?_;refine gn (by kernel_rfl) ?_ _;refine j8 ?_;have cg:Hid (V aC _):=And.left (by assumption);go_wp2_with fail
    go_ret
    exact⟨rfl,fE.trans (cg.mono fE.size)⟩
   ·cases b2
    ·refine mR ?_;refine ih (S:=(fun B=>V aC B∧(∀bw o,bw<aC.heap.size->B.cell? ⟨bw,o,none⟩=aC.cell? ⟨bw,o,none⟩))) (by kernel_rfl) (by(first | assumption | exact gl (ax _ _) | exact gl (ax _ _).drew | exact lL (by assumption) (by assumption))) (fun ii=>?_);refine R 0 ?_;refine R 1 ?_;refine R 2 ?_;refine R 3 ?_;refine R 4 ?_;refine R 5 ?_;refine R 6 ?_;refine rd 7 fun aj W=>?_
     (try simp only[bf,bg,bh]);go_simp;go_at_call 70;refine(HD _ (And.left (by assumption))).mono ?_;rintro e w2 ⟨rfl,bH⟩;go_wp2_with fail
     refine W.out _ _ (by(first | assumption | exact gl (ax _ _) | exact gl (ax _ _).drew | exact lL (by assumption) (by assumption))) (fun oC=>?_);clear W aj;try simp only[Act.put,mP,mh,mi]
     refine R 8 ?_;refine R 9 ?_;refine R 10 ?_;refine R 11 ?_;refine R 12 ?_;refine R 13 ?_;refine R 14 ?_;refine rd 15 fun aj W=>?_
     (try simp only[bf,bg,bh]);go_simp;go_at_call 47;refine(qN _ (And.left (by assumption))).mono ?_;rintro e w3 ⟨rfl,b8⟩;go_wp2_with fail
     refine W.out _ _ (by(first | assumption | exact gl (ax _ _) | exact gl (ax _ _).drew | exact lL (by assumption) (by assumption))) (fun Ko=>?_);clear W aj;try simp only[Act.put,mP,mh,mi]
     refine R 16 ?_;refine R 17 ?_;refine fR 18 ?_;refine fR 19 ?_;refine fR 20 ?_;refine fR 21 ?_;refine fR 22 ?_;refine fR 23 ?_;refine fR 24 ?_;refine fR 25 ?_;refine fR 26 ?_;refine fR 27 ?_;refine fR 28 ?_;refine fR 29 ?_;refine fR 30 ?_;refine fR 31 ?_;refine fR 32 ?_;refine fR 33 ?_;refine fR 34 ?_;refine fR 35 ?_;refine R 36 ?_;refine R 37 ?_;refine gn (by kernel_rfl) ?_ _;refine j8 ?_;have cg:Hid (V aC _):=And.left (by assumption);go_wp2_with fail
     go_ret
     exact⟨rfl,fE.trans (cg.mono fE.size)⟩
    ·refine mR ?_;refine ih (S:=(fun B=>V aC B∧(∀bw o,bw<aC.heap.size->B.cell? ⟨bw,o,none⟩=aC.cell? ⟨bw,o,none⟩))) (by kernel_rfl) (by(first | assumption | exact gl (ax _ _) | exact gl (ax _ _).drew | exact lL (by assumption) (by assumption))) (fun ii=>?_);refine R 0 ?_;refine R 1 ?_;refine R 2 ?_;refine R 3 ?_;refine R 4 ?_;refine R 5 ?_;refine R 6 ?_;refine rd 7 fun aj W=>?_
     (try simp only[bf,bg,bh]);go_simp;go_at_call 70;refine(HD _ (And.left (by assumption))).mono ?_;rintro e w2 ⟨rfl,bH⟩;go_wp2_with fail
     refine W.out _ _ (by(first | assumption | exact gl (ax _ _) | exact gl (ax _ _).drew | exact lL (by assumption) (by assumption))) (fun oC=>?_);clear W aj;try simp only[Act.put,mP,mh,mi]
     refine R 8 ?_;refine R 9 ?_;refine R 10 ?_;refine R 11 ?_;refine R 12 ?_;refine R 13 ?_;refine R 14 ?_;refine rd 15 fun aj W=>?_
     (try simp only[bf,bg,bh]);go_simp;go_at_call 47;refine(qN _ (And.left (by assumption))).mono ?_;rintro e w3 ⟨rfl,b8⟩;go_wp2_with fail
     refine W.out _ _ (by(first | assumption | exact gl (ax _ _) | exact gl (ax _ _).drew | exact lL (by assumption) (by assumption))) (fun Ko=>?_);clear W aj;try simp only[Act.put,mP,mh,mi]
     refine R 16 ?_;refine R 17 ?_;refine R 18 ?_;refine R 19 ?_;refine R 20 ?_;refine R 21 ?_;refine R 22 ?_;refine R 23 ?_;refine R 24 ?_;refine R 25 ?_;refine R 26 ?_;refine R 27 ?_;refine R 28 ?_;refine R 29 ?_;refine R 30 ?_;refine R 31 ?_;refine R 32 ?_;refine R 33 ?_;refine R 34 ?_;refine rd 35 fun aj W=>?_
     (try simp only[bf,bg,bh]);go_simp;go_at_call 70;refine(akj _ (And.left (by assumption))).mono ?_;rintro e f1 ⟨rfl,nL⟩;go_wp2_with fail
     refine W.out _ _ (by(first | assumption | exact gl (ax _ _) | exact gl (ax _ _).drew | exact lL (by assumption) (by assumption))) (fun acK=>?_);clear W aj;try simp only[Act.put,mP,mh,mi]
     refine R 36 ?_;refine R 37 ?_;refine gn (by kernel_rfl) ?_ _;refine j8 ?_;have cg:Hid (V aC _):=And.left (by assumption);go_wp2_with fail
     go_ret
     exact⟨rfl,fE.trans (cg.mono fE.size)⟩
  ·have U:decide (0<=rO∧rO<(N.mems.length:Int))=false:=by rw[vf];omega
   rw[U];have zg:decide (rO<(N.mems.length:Int))=false:=by rw[vf];exact bK
   clear U Mm MJ MK ML;go_enter Tryz.func45,Tryz.ntmps45
   go_wp2_with fail
   go_quiet (fail)
   go_wp2_with fail
   go_quiet (fail)
   go_wp2;go_ret
   exact⟨rfl,Below.drewN (Below.drewN ((ax _ _).alloc (aL _) _) _) _⟩
 ·have U:decide (0<=rO∧rO<(N.mems.length:Int))=false:=by rw[vf];omega
  rw[U];have zg:decide (0<=rO)=false:=by rw[vf];exact bY
  clear U Mm MJ MK ML;go_enter Tryz.func45,Tryz.ntmps45
  go_wp2_with fail
  go_quiet (fail)
  go_wp2_with fail
  go_quiet (fail)
  go_wp2;go_ret
  exact⟨rfl,Below.drewN (Below.drewN ((ax _ _).alloc (aL _) _) _) _⟩
end Go.Proofs.YtcbcenfjigcfkaaGreatDoor
