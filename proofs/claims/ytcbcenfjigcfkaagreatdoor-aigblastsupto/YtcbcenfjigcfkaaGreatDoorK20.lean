import Derived.Test.YtcbcenfjigcfkaaGreatDoorK19
set_option maxRecDepth 100000
set_option maxHeartbeats 40000000
namespace Go.Proofs.YtcbcenfjigcfkaaGreatDoor
open Go.RowKit
theorem awk (Y:Nat) (w:World) (a7:Nat) (S:dp) (N:aR) (h:mn Y w a7 S N) (aM:Y<=w.heap.size) (ab bj:Nat) (d:eO) (U:oR Y w N ab bj d) (bO:∀a,a∈d.args->0<=a∧a<(N.nodes.length:Int)) (X:d.kind=12∨d.kind=13∨d.kind=14∨d.kind=15∨d.kind=16∨d.kind=17) (hl:1<d.args.length) :
  Calls Tryz.prog 68 #[iF a7,.pointer (some ⟨ab,bj,none⟩)] w fun e B=>e = .returned (.bool (decide (bi (cG N d.args) 0=d.width∧bi (cG N d.args) 1=d.width)))∧V w B:=by
 have c0:w.cell? ⟨ab,bj,none⟩=some (.int .i64 d.kind):=U.cells 0 _ rfl;have c1:=U.cells 1 _ rfl;have c3:=U.cells 3 _ rfl;have cR:ab<w.heap.size:=bk U.lt aM;have aU:=U.len;simp only[cd] at aU;have sw:Hid (∀(k:Nat),k<d.args.length->∀(x:Int),x=(k:Int)->∀B,V w B->∀kI gs,B.cell? ⟨kI,0,none⟩=some (.pointer (some ⟨a7,0,none⟩))->B.cell? ⟨gs,0,none⟩=some (.pointer (some ⟨ab,bj,none⟩))->Calls Tryz.prog 89 #[.int .i64 x,.pointer (some ⟨kI,0,none⟩),.pointer (some ⟨gs,0,none⟩)] B fun e bs=>e = .returned (.int .i64 (bi (cG N d.args) k))∧V B bs) :=
  fun k X x J B aV kI gs bb L=>OZ Y B a7 S N (h.to (aV.mono aM)) ab bj d (U.to (aV.mono aM)) bO kI gs bb L k X x J
 have B8:∀(fn:Fn) (first cap:Array Value) (w:World),(Instr.makeFunc fn first cap).run Tryz.prog w = .ok (.func fn first cap) w:=fun _ _ _ _=>rfl
 unfold iF;clear h U bO;obtain⟨kind,width,num,args,aa,ac⟩:=d;simp only at *;have jZ:=K (sw 0 (by omega) 0 rfl);have rp:=K (sw 1 (by omega) 1 rfl);clear sw;generalize bi (cG N args) 0=bX at *;generalize bi (cG N args) 1=dC at *;rcases X with rfl | rfl | rfl | rfl | rfl | rfl
 all_goals
  go_enter Tryz.func68,Tryz.ntmps68
  go_wp2_with fail
  generalize av:World.alloc (World.alloc w (.cells #[.pointer (some ⟨a7,0,none⟩)] _)) (.cells #[.pointer (some ⟨ab,bj,none⟩)] _)=I;have aD:Hid (V w I):=by rw[<-av];exact((ax _ _).alloc (aL _) _).alloc (by simp) _
  have uO:I.cell? ⟨w.heap.size,0,none⟩=some (.pointer (some ⟨a7,0,none⟩)):=by rw[<-av];simp
  have tz:I.cell? ⟨w.heap.size+1,0,none⟩=some (.pointer (some ⟨ab,bj,none⟩)):=by rw[<-av];simp
  have mK:w.heap.size<I.heap.size:=by rw[<-av];simp;omega
  have hy:w.heap.size+1<I.heap.size:=by rw[<-av];simp
  clear av;have m3:=(aD.cell (p:=⟨ab,bj,none⟩) cR).trans c0;have k1:=(aD.cell (p:=⟨ab,bj+1,none⟩) cR).trans c1;have k3:=(aD.cell (p:=⟨ab,bj+3,none⟩) cR).trans c3;have iu:ab<I.heap.size:=Nat.lt_trans cR mK;clear c0 c1 c3;have Bt:Hid (∀B,V I B->Calls Tryz.prog 89 #[.int .i64 0,.pointer (some ⟨w.heap.size,0,none⟩),.pointer (some ⟨w.heap.size+1,0,none⟩)] B fun e bs=>e = .returned (.int .i64 bX)∧V B bs) :=
   fun B aV=>jZ B (aD.trans (aV.mono aD.size)) _ _ ((aV.cell (p:=⟨w.heap.size,0,none⟩) mK).trans uO) ((aV.cell (p:=⟨w.heap.size+1,0,none⟩) hy).trans tz)
  clear jZ;have qf:Hid (∀B,V I B->Calls Tryz.prog 89 #[.int .i64 1,.pointer (some ⟨w.heap.size,0,none⟩),.pointer (some ⟨w.heap.size+1,0,none⟩)] B fun e bs=>e = .returned (.int .i64 dC)∧V B bs) :=
   fun B aV=>rp B (aD.trans (aV.mono aD.size)) _ _ ((aV.cell (p:=⟨w.heap.size,0,none⟩) mK).trans uO) ((aV.cell (p:=⟨w.heap.size+1,0,none⟩) hy).trans tz)
  clear rp;go_wp2_with fail
  by_cases g:bX=width
  ·subst g;refine mR ?_;refine ih (S:=(fun B=>V I B∧(∀bw o,bw<I.heap.size->B.cell? ⟨bw,o,none⟩=I.cell? ⟨bw,o,none⟩))) (by kernel_rfl) (by(first | assumption | exact gl (ax _ _) | exact gl (ax _ _).drew | exact lL (by assumption) (by assumption))) (fun ii=>?_);refine R 0 ?_;refine R 2 ?_;refine R 3 ?_;refine R 4 ?_;refine R 5 ?_;refine rd 1 fun aj W=>?_
   (try simp only[bf,bg,bh]);go_simp;go_at_call 89;refine(Bt _ (And.left (by assumption))).mono ?_;rintro e w2 ⟨rfl,bH⟩;go_wp2_with fail
   refine W.out _ _ (by(first | assumption | exact gl (ax _ _) | exact gl (ax _ _).drew | exact lL (by assumption) (by assumption))) (fun oC=>?_);clear W aj;try simp only[Act.put,mP,mh,mi]
   refine R 6 ?_;refine R 7 ?_;refine R 8 ?_;refine R 10 ?_;refine R 11 ?_;refine R 12 ?_;refine R 13 ?_;refine rd 9 fun aj W=>?_
   (try simp only[bf,bg,bh]);go_simp;go_at_call 89;refine(qf _ (And.left (by assumption))).mono ?_;rintro e w3 ⟨rfl,b8⟩;go_wp2_with fail
   refine W.out _ _ (by(first | assumption | exact gl (ax _ _) | exact gl (ax _ _).drew | exact lL (by assumption) (by assumption))) (fun Ko=>?_);clear W aj;try simp only[Act.put,mP,mh,mi]
   refine R 14 ?_;refine R 15 ?_;refine R 16 ?_;refine gn (by kernel_rfl) ?_ _;refine j8 ?_;have cg:Hid (V I _):=And.left (by assumption);go_wp2_with fail
   go_ret
   exact⟨ia (by first | rfl | (rw[iI];simp) | rw[iI]),aD.trans (cg.mono aD.size)⟩
  ·have af:(bX==width)=false:=by simp[g]
   refine mR ?_;refine ih (S:=(fun B=>V I B∧(∀bw o,bw<I.heap.size->B.cell? ⟨bw,o,none⟩=I.cell? ⟨bw,o,none⟩))) (by kernel_rfl) (by(first | assumption | exact gl (ax _ _) | exact gl (ax _ _).drew | exact lL (by assumption) (by assumption))) (fun ii=>?_);refine R 0 ?_;refine R 2 ?_;refine R 3 ?_;refine R 4 ?_;refine R 5 ?_;refine rd 1 fun aj W=>?_
   (try simp only[bf,bg,bh]);go_simp;go_at_call 89;refine(Bt _ (And.left (by assumption))).mono ?_;rintro e w2 ⟨rfl,bH⟩;go_wp2_with fail
   refine W.out _ _ (by(first | assumption | exact gl (ax _ _) | exact gl (ax _ _).drew | exact lL (by assumption) (by assumption))) (fun oC=>?_);clear W aj;try simp only[Act.put,mP,mh,mi]
   refine R 6 ?_;refine R 7 ?_;refine fR 8 ?_;refine fR 9 ?_;refine fR 10 ?_;refine fR 11 ?_;refine fR 12 ?_;refine fR 13 ?_;refine fR 14 ?_;refine R 15 ?_;refine R 16 ?_;refine gn (by kernel_rfl) ?_ _;refine j8 ?_;have cg:Hid (V I _):=And.left (by assumption);go_wp2_with fail
   go_ret
   exact⟨ia (by rw[iI];simp[g]),aD.trans (cg.mono aD.size)⟩
end Go.Proofs.YtcbcenfjigcfkaaGreatDoor
