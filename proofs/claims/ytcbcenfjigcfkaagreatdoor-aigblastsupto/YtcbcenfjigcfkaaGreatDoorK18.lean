import Derived.Test.YtcbcenfjigcfkaaGreatDoorK17
set_option maxRecDepth 100000
set_option maxHeartbeats 40000000
namespace Go.Proofs.YtcbcenfjigcfkaaGreatDoor
open Go.RowKit
theorem atk (w:World) (width:Nat) (bT:1<=width) (gp:width<=32) (num:Nat) (aa:Option Addr) (n es:Nat) (ee:Option Addr) (nw ca:Nat) (J:num<18446744073709551616)  :
  Calls Tryz.prog 65 #[.int .i64 1,.int .i64 width,.int .u64 num,.slice aa n es,.slice ee nw ca] w fun e B=>e = .returned (.int .u64 ((num%2^width:Nat):Int))∧∃q,B=w.drewN q:=by
 have hP:Hid (∀w,Calls Tryz.prog 19 #[.int .i64 (width:Int)] w fun e B=>e = .returned (.int .u64 (i3 (width:Int)))∧B=w):=fun w=>oe (width:Int) (by simp[cL];omega) w
 go_enter Tryz.func65,Tryz.ntmps65
 go_wp2_with (go_at_call 19;refine(hP _).mono ?_;rintro e B ⟨rfl,aV⟩;subst B)
 go_ret
 exact⟨qB (BN num width J gp),0,rfl⟩
theorem ate (w:World) (width:Nat) (bT:1<=width) (gp:width<=32) (num:Nat) (bJ cP n es:Nat) (ee:Option Addr) (nw ca:Nat) (x:Nat) (J:x<18446744073709551616) (ag:(0:Int)<(n:Int)) (c0:w.cell? ⟨bJ,cP,none⟩=some (.int .u64 (x:Int))) :
  Calls Tryz.prog 65 #[.int .i64 6,.int .i64 width,.int .u64 num,.slice (some ⟨bJ,cP,none⟩) n es,.slice ee nw ca] w fun e B=>e = .returned (.int .u64 ((x%2^width:Nat):Int))∧∃q,B=w.drewN q:=by
 have hP:Hid (∀w,Calls Tryz.prog 19 #[.int .i64 (width:Int)] w fun e B=>e = .returned (.int .u64 (i3 (width:Int)))∧B=w):=fun w=>oe (width:Int) (by simp[cL];omega) w
 go_enter Tryz.func65,Tryz.ntmps65
 go_wp2_with (go_at_call 19;refine(hP _).mono ?_;rintro e B ⟨rfl,aV⟩;subst B)
 go_ret
 exact⟨qB (BN x width J gp),0,rfl⟩
theorem atb (w:World) (width:Nat) (bT:1<=width) (gp:width<=32) (num:Nat) (bJ cP n es:Nat) (ee:Option Addr) (nw ca:Nat) (x:Nat) (ag:(0:Int)<(n:Int)) (c0:w.cell? ⟨bJ,cP,none⟩=some (.int .u64 (x:Int))) :
  Calls Tryz.prog 65 #[.int .i64 10,.int .i64 width,.int .u64 num,.slice (some ⟨bJ,cP,none⟩) n es,.slice ee nw ca] w fun e B=>e = .returned (.int .u64 ((n6 (decide (x≠0)):Nat):Int))∧∃q,B=w.drewN q:=by
 have hP:Hid (∀w,Calls Tryz.prog 19 #[.int .i64 (width:Int)] w fun e B=>e = .returned (.int .u64 (i3 (width:Int)))∧B=w):=fun w=>oe (width:Int) (by simp[cL];omega) w
 have mp:Hid (∀b w,Calls Tryz.prog 88 #[.bool b] w fun e B=>e = .returned (.int .u64 ((n6 b:Nat):Int))∧B=w):=Sp;go_enter Tryz.func65,Tryz.ntmps65
 go_wp2_with (first | (go_at_call 19;refine(hP _).mono ?_;rintro e B ⟨rfl,aV⟩;subst B) | (go_at_call 88;refine(mp _ _).mono ?_;rintro e B ⟨rfl,rfl⟩))
 go_ret
 exact⟨qB (by congr 2;rw[iI];simp),0,rfl⟩
theorem ata (w:World) (width:Nat) (bT:1<=width) (gp:width<=32) (num:Nat) (bJ cP n es:Nat) (ee:Option Addr) (nw ca:Nat) (x y:Nat) (J:x<18446744073709551616) (aF:y<18446744073709551616) (ag:(1:Int)<(n:Int)) (c0:w.cell? ⟨bJ,cP,none⟩=some (.int .u64 (x:Int))) (c1:w.cell? ⟨bJ,cP+1,none⟩=some (.int .u64 (y:Int))) :
  Calls Tryz.prog 65 #[.int .i64 12,.int .i64 width,.int .u64 num,.slice (some ⟨bJ,cP,none⟩) n es,.slice ee nw ca] w fun e B=>e = .returned (.int .u64 ((x&&& y:Nat):Int))∧∃q,B=w.drewN q:=by
 have hP:Hid (∀w,Calls Tryz.prog 19 #[.int .i64 (width:Int)] w fun e B=>e = .returned (.int .u64 (i3 (width:Int)))∧B=w):=fun w=>oe (width:Int) (by simp[cL];omega) w
 go_enter Tryz.func65,Tryz.ntmps65
 go_wp2_with (go_at_call 19;refine(hP _).mono ?_;rintro e B ⟨rfl,aV⟩;subst B)
 go_quiet (fail)
 go_wp2;go_ret
 exact⟨qB (Uj x y J aF),_,rfl⟩
theorem atm (w:World) (width:Nat) (bT:1<=width) (gp:width<=32) (num:Nat) (bJ cP n es:Nat) (ee:Option Addr) (nw ca:Nat) (x y:Nat) (J:x<18446744073709551616) (aF:y<18446744073709551616) (ag:(1:Int)<(n:Int)) (c0:w.cell? ⟨bJ,cP,none⟩=some (.int .u64 (x:Int))) (c1:w.cell? ⟨bJ,cP+1,none⟩=some (.int .u64 (y:Int))) :
  Calls Tryz.prog 65 #[.int .i64 13,.int .i64 width,.int .u64 num,.slice (some ⟨bJ,cP,none⟩) n es,.slice ee nw ca] w fun e B=>e = .returned (.int .u64 ((x||| y:Nat):Int))∧∃q,B=w.drewN q:=by
 have hP:Hid (∀w,Calls Tryz.prog 19 #[.int .i64 (width:Int)] w fun e B=>e = .returned (.int .u64 (i3 (width:Int)))∧B=w):=fun w=>oe (width:Int) (by simp[cL];omega) w
 go_enter Tryz.func65,Tryz.ntmps65
 go_wp2_with (go_at_call 19;refine(hP _).mono ?_;rintro e B ⟨rfl,aV⟩;subst B)
 go_quiet (fail)
 go_wp2;go_ret
 exact⟨qB (atw x y J aF),_,rfl⟩
theorem att (w:World) (width:Nat) (bT:1<=width) (gp:width<=32) (num:Nat) (bJ cP n es:Nat) (ee:Option Addr) (nw ca:Nat) (x y:Nat) (J:x<18446744073709551616) (aF:y<18446744073709551616) (ag:(1:Int)<(n:Int)) (c0:w.cell? ⟨bJ,cP,none⟩=some (.int .u64 (x:Int))) (c1:w.cell? ⟨bJ,cP+1,none⟩=some (.int .u64 (y:Int))) :
  Calls Tryz.prog 65 #[.int .i64 14,.int .i64 width,.int .u64 num,.slice (some ⟨bJ,cP,none⟩) n es,.slice ee nw ca] w fun e B=>e = .returned (.int .u64 ((x ^^^ y:Nat):Int))∧∃q,B=w.drewN q:=by
 have hP:Hid (∀w,Calls Tryz.prog 19 #[.int .i64 (width:Int)] w fun e B=>e = .returned (.int .u64 (i3 (width:Int)))∧B=w):=fun w=>oe (width:Int) (by simp[cL];omega) w
 go_enter Tryz.func65,Tryz.ntmps65
 go_wp2_with (go_at_call 19;refine(hP _).mono ?_;rintro e B ⟨rfl,aV⟩;subst B)
 go_quiet (fail)
 go_wp2;go_ret
 exact⟨qB (YI x y J aF),_,rfl⟩
theorem as8 (w:World) (width:Nat) (bT:1<=width) (gp:width<=32) (num:Nat) (bJ cP n es:Nat) (ee:Option Addr) (nw ca:Nat) (x y:Nat) (ag:(1:Int)<(n:Int)) (c0:w.cell? ⟨bJ,cP,none⟩=some (.int .u64 (x:Int))) (c1:w.cell? ⟨bJ,cP+1,none⟩=some (.int .u64 (y:Int))) :
  Calls Tryz.prog 65 #[.int .i64 15,.int .i64 width,.int .u64 num,.slice (some ⟨bJ,cP,none⟩) n es,.slice ee nw ca] w fun e B=>e = .returned (.int .u64 (((x+y)%18446744073709551616%2^width:Nat):Int))∧∃q,B=w.drewN q:=by
 have hP:Hid (∀w,Calls Tryz.prog 19 #[.int .i64 (width:Int)] w fun e B=>e = .returned (.int .u64 (i3 (width:Int)))∧B=w):=fun w=>oe (width:Int) (by simp[cL];omega) w
 go_enter Tryz.func65,Tryz.ntmps65
 go_wp2_with (go_at_call 19;refine(hP _).mono ?_;rintro e B ⟨rfl,aV⟩;subst B)
 go_quiet (fail)
 go_wp2;go_ret
 exact⟨qB (by rw[akn];exact BN _ width (Nat.mod_lt _ (by decide)) gp),_,rfl⟩
theorem ats (w:World) (width:Nat) (bT:1<=width) (gp:width<=32) (num:Nat) (bJ cP n es:Nat) (ee:Option Addr) (nw ca:Nat) (x y:Nat) (aF:y<18446744073709551616) (ag:(1:Int)<(n:Int)) (c0:w.cell? ⟨bJ,cP,none⟩=some (.int .u64 (x:Int))) (c1:w.cell? ⟨bJ,cP+1,none⟩=some (.int .u64 (y:Int))) :
  Calls Tryz.prog 65 #[.int .i64 16,.int .i64 width,.int .u64 num,.slice (some ⟨bJ,cP,none⟩) n es,.slice ee nw ca] w fun e B=>e = .returned (.int .u64 (((x+(18446744073709551616 - y))%18446744073709551616%2^width:Nat):Int))∧∃q,B=w.drewN q:=by
 have hP:Hid (∀w,Calls Tryz.prog 19 #[.int .i64 (width:Int)] w fun e B=>e = .returned (.int .u64 (i3 (width:Int)))∧B=w):=fun w=>oe (width:Int) (by simp[cL];omega) w
 go_enter Tryz.func65,Tryz.ntmps65
 go_wp2_with (go_at_call 19;refine(hP _).mono ?_;rintro e B ⟨rfl,aV⟩;subst B)
 go_quiet (fail)
 go_wp2;go_ret
 exact⟨qB (by rw[auV _ _ aF];exact BN _ width (Nat.mod_lt _ (by decide)) gp),_,rfl⟩
theorem ati (w:World) (width:Nat) (bT:1<=width) (gp:width<=32) (num:Nat) (bJ cP n es:Nat) (ee:Option Addr) (nw ca:Nat) (x y:Nat) (ag:(1:Int)<(n:Int)) (c0:w.cell? ⟨bJ,cP,none⟩=some (.int .u64 (x:Int))) (c1:w.cell? ⟨bJ,cP+1,none⟩=some (.int .u64 (y:Int))) :
  Calls Tryz.prog 65 #[.int .i64 17,.int .i64 width,.int .u64 num,.slice (some ⟨bJ,cP,none⟩) n es,.slice ee nw ca] w fun e B=>e = .returned (.int .u64 (((x*y)%18446744073709551616%2^width:Nat):Int))∧∃q,B=w.drewN q:=by
 have hP:Hid (∀w,Calls Tryz.prog 19 #[.int .i64 (width:Int)] w fun e B=>e = .returned (.int .u64 (i3 (width:Int)))∧B=w):=fun w=>oe (width:Int) (by simp[cL];omega) w
 go_enter Tryz.func65,Tryz.ntmps65
 go_wp2_with (go_at_call 19;refine(hP _).mono ?_;rintro e B ⟨rfl,aV⟩;subst B)
 go_quiet (fail)
 go_wp2;go_ret
 exact⟨qB (by rw[afe];exact BN _ width (Nat.mod_lt _ (by decide)) gp),_,rfl⟩
theorem atj (w:World) (width:Nat) (bT:1<=width) (gp:width<=32) (num:Nat) (bJ cP n es:Nat) (ee:Option Addr) (nw ca:Nat) (x:Nat) (J:x<18446744073709551616) (ag:(0:Int)<(n:Int)) (c0:w.cell? ⟨bJ,cP,none⟩=some (.int .u64 (x:Int))) :
  Calls Tryz.prog 65 #[.int .i64 8,.int .i64 width,.int .u64 num,.slice (some ⟨bJ,cP,none⟩) n es,.slice ee nw ca] w fun e B=>e = .returned (.int .u64 (((18446744073709551615 ^^^ x)%2^width:Nat):Int))∧∃q,B=w.drewN q:=by
 have hP:Hid (∀w,Calls Tryz.prog 19 #[.int .i64 (width:Int)] w fun e B=>e = .returned (.int .u64 (i3 (width:Int)))∧B=w):=fun w=>oe (width:Int) (by simp[cL];omega) w
 go_enter Tryz.func65,Tryz.ntmps65
 go_wp2_with (go_at_call 19;refine(hP _).mono ?_;rintro e B ⟨rfl,aV⟩;subst B)
 go_ret
 refine⟨qB ?_,0,rfl⟩;rw[show IntKind.u64.max=((18446744073709551615:Nat):Int) from rfl,YI _ _ (by decide) J];exact BN _ width (awS _ _ (by decide) J) gp
theorem atr (w:World) (width:Nat) (bT:1<=width) (gp:width<=32) (num:Nat) (bJ cP n es:Nat) (ee:Option Addr) (nw ca:Nat) (x:Nat) (J:x<18446744073709551616) (ag:(0:Int)<(n:Int)) (QA:(num:Int)<=64) (c0:w.cell? ⟨bJ,cP,none⟩=some (.int .u64 (x:Int))) :
  Calls Tryz.prog 65 #[.int .i64 5,.int .i64 width,.int .u64 num,.slice (some ⟨bJ,cP,none⟩) n es,.slice ee nw ca] w fun e B=>e = .returned (.int .u64 ((x / 2^num%2^width:Nat):Int))∧∃q,B=w.drewN q:=by
 have hP:Hid (∀w,Calls Tryz.prog 19 #[.int .i64 (width:Int)] w fun e B=>e = .returned (.int .u64 (i3 (width:Int)))∧B=w):=fun w=>oe (width:Int) (by simp[cL];omega) w
 go_enter Tryz.func65,Tryz.ntmps65
 go_wp2_with (go_at_call 19;refine(hP _).mono ?_;rintro e B ⟨rfl,aV⟩;subst B)
 go_ret
 refine⟨qB ?_,0,rfl⟩;rw[acg];exact BN _ width (Nat.lt_of_le_of_lt (Nat.div_le_self _ _) J) gp
theorem atg (w:World) (width:Nat) (bT:1<=width) (gp:width<=32) (num:Nat) (bJ cP n es:Nat) (ee:Option Addr) (nw ca:Nat) (x y:Nat) (J:(x:Int)≠0) (ag:(1:Int)<(n:Int)) (c0:w.cell? ⟨bJ,cP,none⟩=some (.int .u64 (x:Int))) (c1:w.cell? ⟨bJ,cP+1,none⟩=some (.int .u64 (y:Int))) :
  Calls Tryz.prog 65 #[.int .i64 22,.int .i64 width,.int .u64 num,.slice (some ⟨bJ,cP,none⟩) n es,.slice ee nw ca] w fun e B=>e = .returned (.int .u64 ((y:Nat):Int))∧∃q,B=w.drewN q:=by
 have hP:Hid (∀w,Calls Tryz.prog 19 #[.int .i64 (width:Int)] w fun e B=>e = .returned (.int .u64 (i3 (width:Int)))∧B=w):=fun w=>oe (width:Int) (by simp[cL];omega) w
 go_enter Tryz.func65,Tryz.ntmps65
 go_wp2_with (go_at_call 19;refine(hP _).mono ?_;rintro e B ⟨rfl,aV⟩;subst B)
 go_ret
 exact⟨rfl,0,rfl⟩
theorem atf (w:World) (width:Nat) (bT:1<=width) (gp:width<=32) (num:Nat) (bJ cP n es:Nat) (ee:Option Addr) (nw ca:Nat) (x y:Nat) (J:(x:Int)=0) (ag:(2:Int)<(n:Int)) (c0:w.cell? ⟨bJ,cP,none⟩=some (.int .u64 (x:Int))) (c1:w.cell? ⟨bJ,cP+2,none⟩=some (.int .u64 (y:Int))) :
  Calls Tryz.prog 65 #[.int .i64 22,.int .i64 width,.int .u64 num,.slice (some ⟨bJ,cP,none⟩) n es,.slice ee nw ca] w fun e B=>e = .returned (.int .u64 ((y:Nat):Int))∧∃q,B=w.drewN q:=by
 have hP:Hid (∀w,Calls Tryz.prog 19 #[.int .i64 (width:Int)] w fun e B=>e = .returned (.int .u64 (i3 (width:Int)))∧B=w):=fun w=>oe (width:Int) (by simp[cL];omega) w
 rw[J] at c0;go_enter Tryz.func65,Tryz.ntmps65
 go_wp2_with (go_at_call 19;refine(hP _).mono ?_;rintro e B ⟨rfl,aV⟩;subst B)
 go_ret
 exact⟨rfl,0,rfl⟩
theorem atd (w:World) (width:Nat) (bT:1<=width) (gp:width<=32) (num:Nat) (bJ cP n es:Nat) (ee:Option Addr) (nw ca:Nat) (x y:Nat) (ag:(1:Int)<(n:Int)) (c0:w.cell? ⟨bJ,cP,none⟩=some (.int .u64 (x:Int))) (c1:w.cell? ⟨bJ,cP+1,none⟩=some (.int .u64 (y:Int))) :
  Calls Tryz.prog 65 #[.int .i64 20,.int .i64 width,.int .u64 num,.slice (some ⟨bJ,cP,none⟩) n es,.slice ee nw ca] w fun e B=>e = .returned (.int .u64 ((n6 (decide (x=y)):Nat):Int))∧∃q,B=w.drewN q:=by
 have hP:Hid (∀w,Calls Tryz.prog 19 #[.int .i64 (width:Int)] w fun e B=>e = .returned (.int .u64 (i3 (width:Int)))∧B=w):=fun w=>oe (width:Int) (by simp[cL];omega) w
 have mp:Hid (∀b w,Calls Tryz.prog 88 #[.bool b] w fun e B=>e = .returned (.int .u64 ((n6 b:Nat):Int))∧B=w):=Sp;go_enter Tryz.func65,Tryz.ntmps65
 go_wp2_with (go_at_call 19;refine(hP _).mono ?_;rintro e B ⟨rfl,aV⟩;subst B)
 go_quiet ((go_at_call 88;exact Calls.quiet_of_same (mp _ _)))
 go_wp2;go_ret
 exact⟨qB (by first | rfl | (congr 2;done) | (congr 2;rw[iI];first | (simp;done) | (simp;omega))),_,rfl⟩
theorem ath (w:World) (width:Nat) (bT:1<=width) (gp:width<=32) (num:Nat) (bJ cP n es:Nat) (ee:Option Addr) (nw ca:Nat) (x y:Nat) (ag:(1:Int)<(n:Int)) (c0:w.cell? ⟨bJ,cP,none⟩=some (.int .u64 (x:Int))) (c1:w.cell? ⟨bJ,cP+1,none⟩=some (.int .u64 (y:Int))) :
  Calls Tryz.prog 65 #[.int .i64 21,.int .i64 width,.int .u64 num,.slice (some ⟨bJ,cP,none⟩) n es,.slice ee nw ca] w fun e B=>e = .returned (.int .u64 ((n6 (decide (x<y)):Nat):Int))∧∃q,B=w.drewN q:=by
 have hP:Hid (∀w,Calls Tryz.prog 19 #[.int .i64 (width:Int)] w fun e B=>e = .returned (.int .u64 (i3 (width:Int)))∧B=w):=fun w=>oe (width:Int) (by simp[cL];omega) w
 have mp:Hid (∀b w,Calls Tryz.prog 88 #[.bool b] w fun e B=>e = .returned (.int .u64 ((n6 b:Nat):Int))∧B=w):=Sp;go_enter Tryz.func65,Tryz.ntmps65
 go_wp2_with (go_at_call 19;refine(hP _).mono ?_;rintro e B ⟨rfl,aV⟩;subst B)
 go_quiet ((go_at_call 88;exact Calls.quiet_of_same (mp _ _)))
 go_wp2;go_ret
 exact⟨qB (by first | rfl | (congr 2;done) | (congr 2;rw[iI];first | (simp;done) | (simp;omega))),_,rfl⟩
theorem as9 (w:World) (width:Nat) (bT:1<=width) (gp:width<=32) (num:Nat) (bJ cP n es:Nat) (nw ca:Nat) (aK aQ:Nat) (x v:Nat) (hS:1<=v) (il:v<=32) (ag:(0:Int)<(n:Int)) (mL:(0:Int)<(nw:Int)) (c0:w.cell? ⟨bJ,cP,none⟩=some (.int .u64 (x:Int))) (axB:w.cell? ⟨aK,aQ,none⟩=some (.int .i64 (v:Int))) :
  Calls Tryz.prog 65 #[.int .i64 9,.int .i64 width,.int .u64 num,.slice (some ⟨bJ,cP,none⟩) n es,.slice (some ⟨aK,aQ,none⟩) nw ca] w fun e B=>e = .returned (.int .u64 ((n6 (decide (x=2^v - 1)):Nat):Int))∧∃q,B=w.drewN q:=by
 have hP:Hid (∀w,Calls Tryz.prog 19 #[.int .i64 (width:Int)] w fun e B=>e = .returned (.int .u64 (i3 (width:Int)))∧B=w):=fun w=>oe (width:Int) (by simp[cL];omega) w
 have mp:Hid (∀b w,Calls Tryz.prog 88 #[.bool b] w fun e B=>e = .returned (.int .u64 ((n6 b:Nat):Int))∧B=w):=Sp;have ajY:Hid (∀w,Calls Tryz.prog 19 #[.int .i64 (v:Int)] w fun e B=>e = .returned (.int .u64 (i3 (v:Int)))∧B=w):=fun w=>oe (v:Int) (by simp[cL];omega) w
 go_enter Tryz.func65,Tryz.ntmps65
 go_wp2_with (go_at_call 19;refine(hP _).mono ?_;rintro e B ⟨rfl,aV⟩;subst B)
 go_quiet (first | (go_at_call 88;exact Calls.quiet_of_same (mp _ _)) | (go_at_call 19;exact Calls.quiet_of_same (ajY _)))
 go_wp2;go_ret
 refine⟨qB ?_,_,rfl⟩
 congr 2
 rw[iI];simp only[beq_iff_eq,decide_eq_true_eq,i3,Int.toNat_natCast]
 have:=Nat.one_le_two_pow (n:=v)
 omega
theorem ato (w:World) (width:Nat) (bT:1<=width) (gp:width<=32) (num:Nat) (bJ cP n es:Nat) (ee:Option Addr) (nw ca:Nat) (x y:Nat) (aF:(width:Int)<=(y:Int)) (ag:(1:Int)<(n:Int)) (_c0:w.cell? ⟨bJ,cP,none⟩=some (.int .u64 (x:Int))) (c1:w.cell? ⟨bJ,cP+1,none⟩=some (.int .u64 (y:Int))) :
  Calls Tryz.prog 65 #[.int .i64 18,.int .i64 width,.int .u64 num,.slice (some ⟨bJ,cP,none⟩) n es,.slice ee nw ca] w fun e B=>e = .returned (.int .u64 ((0:Nat):Int))∧∃q,B=w.drewN q:=by
 have hP:Hid (∀w,Calls Tryz.prog 19 #[.int .i64 (width:Int)] w fun e B=>e = .returned (.int .u64 (i3 (width:Int)))∧B=w):=fun w=>oe (width:Int) (by simp[cL];omega) w
 have bp:IntKind.u64.wrap (width:Int)=(width:Int):=qD _ (by omega) (by omega);go_enter Tryz.func65,Tryz.ntmps65
 go_wp2_with (go_at_call 19;refine(hP _).mono ?_;rintro e B ⟨rfl,aV⟩;subst B)
 go_ret
 exact⟨rfl,0,rfl⟩
theorem atn (w:World) (width:Nat) (bT:1<=width) (gp:width<=32) (num:Nat) (bJ cP n es:Nat) (ee:Option Addr) (nw ca:Nat) (x y:Nat) (aF:¬(width:Int)<=(y:Int)) (ag:(1:Int)<(n:Int)) (c0:w.cell? ⟨bJ,cP,none⟩=some (.int .u64 (x:Int))) (c1:w.cell? ⟨bJ,cP+1,none⟩=some (.int .u64 (y:Int))) :
  Calls Tryz.prog 65 #[.int .i64 18,.int .i64 width,.int .u64 num,.slice (some ⟨bJ,cP,none⟩) n es,.slice ee nw ca] w fun e B=>e = .returned (.int .u64 (((x*2^y)%18446744073709551616%2^width:Nat):Int))∧∃q,B=w.drewN q:=by
 have hP:Hid (∀w,Calls Tryz.prog 19 #[.int .i64 (width:Int)] w fun e B=>e = .returned (.int .u64 (i3 (width:Int)))∧B=w):=fun w=>oe (width:Int) (by simp[cL];omega) w
 have bp:IntKind.u64.wrap (width:Int)=(width:Int):=qD _ (by omega) (by omega);have QA:(y:Int)<=64:=by omega
 go_enter Tryz.func65,Tryz.ntmps65
 go_wp2_with (go_at_call 19;refine(hP _).mono ?_;rintro e B ⟨rfl,aV⟩;subst B)
 go_quiet (fail)
 go_wp2;go_ret
 refine⟨qB ?_,_,rfl⟩;rw[agj];exact BN _ width (Nat.mod_lt _ (by decide)) gp
theorem atq (w:World) (width:Nat) (bT:1<=width) (gp:width<=32) (num:Nat) (bJ cP n es:Nat) (ee:Option Addr) (nw ca:Nat) (x y:Nat) (aF:(width:Int)<=(y:Int)) (ag:(1:Int)<(n:Int)) (_c0:w.cell? ⟨bJ,cP,none⟩=some (.int .u64 (x:Int))) (c1:w.cell? ⟨bJ,cP+1,none⟩=some (.int .u64 (y:Int))) :
  Calls Tryz.prog 65 #[.int .i64 19,.int .i64 width,.int .u64 num,.slice (some ⟨bJ,cP,none⟩) n es,.slice ee nw ca] w fun e B=>e = .returned (.int .u64 ((0:Nat):Int))∧∃q,B=w.drewN q:=by
 have hP:Hid (∀w,Calls Tryz.prog 19 #[.int .i64 (width:Int)] w fun e B=>e = .returned (.int .u64 (i3 (width:Int)))∧B=w):=fun w=>oe (width:Int) (by simp[cL];omega) w
 have bp:IntKind.u64.wrap (width:Int)=(width:Int):=qD _ (by omega) (by omega);go_enter Tryz.func65,Tryz.ntmps65
 go_wp2_with (go_at_call 19;refine(hP _).mono ?_;rintro e B ⟨rfl,aV⟩;subst B)
 go_ret
 exact⟨rfl,0,rfl⟩
theorem atp (w:World) (width:Nat) (bT:1<=width) (gp:width<=32) (num:Nat) (bJ cP n es:Nat) (ee:Option Addr) (nw ca:Nat) (x y:Nat) (aF:¬(width:Int)<=(y:Int)) (ag:(1:Int)<(n:Int)) (c0:w.cell? ⟨bJ,cP,none⟩=some (.int .u64 (x:Int))) (c1:w.cell? ⟨bJ,cP+1,none⟩=some (.int .u64 (y:Int))) :
  Calls Tryz.prog 65 #[.int .i64 19,.int .i64 width,.int .u64 num,.slice (some ⟨bJ,cP,none⟩) n es,.slice ee nw ca] w fun e B=>e = .returned (.int .u64 ((x / 2^y:Nat):Int))∧∃q,B=w.drewN q:=by
 have hP:Hid (∀w,Calls Tryz.prog 19 #[.int .i64 (width:Int)] w fun e B=>e = .returned (.int .u64 (i3 (width:Int)))∧B=w):=fun w=>oe (width:Int) (by simp[cL];omega) w
 have bp:IntKind.u64.wrap (width:Int)=(width:Int):=qD _ (by omega) (by omega);have QA:(y:Int)<=64:=by omega
 go_enter Tryz.func65,Tryz.ntmps65
 go_wp2_with (go_at_call 19;refine(hP _).mono ?_;rintro e B ⟨rfl,aV⟩;subst B)
 go_quiet (fail)
 go_wp2;go_ret
 refine⟨qB ?_,_,rfl⟩;exact acg x y
end Go.Proofs.YtcbcenfjigcfkaaGreatDoor
