import Derived.Test.YtcbcenfjigcfkaaGreatDoorK52
import Derived.Test.YtcbcenfjigcfkaaGreatDoorTie
import Derived.Test.YtcbcenfjigcfkaaGreatDoorCards
import Derived.SevenTiedAt
import Derived.Deep.DeepHandedRow
import Derived.Deep.DeepWitnessRowRef
import Derived.LaidMore
import Derived.LaidHandle
import Derived.Lay
import Derived.Shelf.Vars
import Derived.HandedShaped
import Derived.Stop.Joined
import Derived.Lib.LaidTab
set_option maxRecDepth 100000
set_option maxHeartbeats 40000000
namespace Go.Proofs.YtcbcenfjigcfkaaGreatDoor
open Go.ChangeShapes Go.WideShapes Go.ChangeAt Go.RowKit
theorem own:ownKnob Tryz.prog.godebug=none:=by kernel_rfl
theorem abx:laidOutB Tryz.prog=true:=by kernel_rfl
theorem akC:Tryz.prog.globalNamed "errors.errorType" = some 0:=by kernel_rfl
theorem akE:(Tryz.prog.cutTypes.find? (·.1== "internal/reflectlite.rtype")).map (·.2)=some 149:=by kernel_rfl
theorem akF:Tryz.prog.types.size=201:=by kernel_rfl
theorem akD:((List.range 201).filter fun t=>Tryz.prog.rowNamed t [101,114,114,111,114])=[40]:=by kernel_rfl
abbrev agu:List (String×DataW Unit):=[("errors.errorType",Rows.laid_errors_errorType)]
theorem avQ {I:World} (h:laidMetH Tryz.prog agu I):y6 I∧1<=I.heap.size:=by
 have d9:laidMet Tryz.prog _ I∧handlesMet Tryz.prog [("errors.errorType",Rows.laid_errors_errorType)] I:=h
 obtain⟨name,u,CF,bp,aS,bM,lg,l8⟩:=d9.2 _ (List.mem_singleton.2 rfl);have sJ:name=[101,114,114,111,114]:=(Option.some.inj bp).symm;subst sJ;obtain rfl:=Option.some.inj (akE.symm.trans aS);have ae:CF∈(List.range 201).filter fun t=>Tryz.prog.rowNamed t [101,114,114,111,114]:=List.mem_filter.2 ⟨om.2 (by rw[<-akF];exact bM),lg⟩
 rw[akD] at ae;obtain rfl:=List.mem_singleton.1 ae;have kZ:typeHandle Tryz.prog 40 = .pointer (some ⟨1,40,none⟩):=by kernel_rfl
 rw[kZ] at l8;have ar:I.cell? ⟨0,0,none⟩=some (.iface 149 (.agg #[.pointer (some ⟨1,40,none⟩)])):=by simpa using World.var?_cell akC l8 0
 exact⟨⟨ar⟩,World.block_lt_of_cell? _ _ ar⟩
theorem alY (os:Os) (args:Array Value):laidMetH Tryz.prog Rows.aigBlastsUptoRow.laid ((World.doorLaid Tryz.prog 400 os).forCall (fun _ _=>0) ⟨#[],args,[]⟩).memory :=
 laidMetH_of_parts3 (fuel:=8) (laidMet_of_run' 8 (by kernel_rfl) (by kernel_rfl)) (by kernel_rfl) (by kernel_rfl)
abbrev Xr:Array Value:=#[.agg #[.slice none 0 0,.slice none 0 0,.slice none 0 0,.slice none 0 0,.slice none 0 0,.slice none 0 0],.slice none 0 0]
theorem ako (os:Os) (Yc:os.Started) (H:Type) (enc:TypeId×Value->H) (hZ:Stop.Interp) :
  ReturnsInHanded {} Tryz.checked os 3 .any ((Rows.OpenSpec.upto Rows.aigBlastsSpec).preRow enc Tryz.prog Tryz.f3 Rows.aigBlastsUptoRow.domain false Rows.aigBlastsUptoRow.laid) (((Rows.OpenSpec.upto Rows.aigBlastsSpec).at hZ).post enc Tryz.prog Tryz.f3 false true false false):=by
 have J:DataW.whole enc Tryz.prog ((World.doorLaid Tryz.prog 400 os).forCall (fun _ _=>0) ⟨#[],Xr,[]⟩).memory Tryz.f3.params.toList Rows.aigBlastsSpec.vars false Xr.toList 8=some ([.agg [.nil,.nil,.nil,.nil,.nil,.nil],.nil],[],[]):=by kernel_rfl
 refine returnsInHanded_of_row (C:=Tryz.checked) (s:=Rows.OpenSpec.upto Rows.aigBlastsSpec) own Yc (by kernel_rfl) Tryz.func3
  (witness_row_atRef (enc:=enc) (C:=Tryz.checked) false (World.doorLaid Tryz.prog 400 os) Xr rfl (by kernel_rfl) (by kernel_rfl) (by kernel_rfl)
   (OpenSpec.preRow_of_cond 8 J (by kernel_rfl) (fun k X=>by cases X;kernel_rfl) (by kernel_rfl) (alY os _))) ?_
 intro I jI args ds ana axp aer av _ an6 aek jR _ _;have gY:(DataW.weightsEach Tryz.prog (Tryz.f3.params.toList++Rows.aigBlastsSpec.plain.varTypes Tryz.prog) (ds++ana)).all (·<=reachBytes)=true:=aek;clear aek;have WE:∀(j:Nat) t v,Tryz.f3.params[j]?=some t->args[j]?=some v->Value.okWide Tryz.prog I .any jI t v:=aer;have X:=an6 _ rfl;have Vq:=av;obtain⟨p,q,acD,hy,rfl,_,_⟩:=av;have gV:DataW.TrodAll enc Tryz.prog I 0 (fun _=>true) true Tryz.f3.params.toList args.toList ds p:=acD;rw[Tryz.params3] at gV WE gY;obtain⟨v0,hJ,nJ,d1,m6,co,rfl,rfl,rfl,aI,F⟩:=trodAll_two gV;obtain⟨rfl,rfl⟩:=trodVars_none hy;have VH:s8 28 nJ:=fun n ag=>by
  have:=k9.1 gY n (DataW.weights_mem_each (j:=0) (t:=28) (d:=nJ) rfl rfl n ag)
  simpa using this
 have ef:s8 29 d1:=fun n ag=>by
  have:=k9.1 gY n (DataW.weights_mem_each (j:=1) (t:=29) (d:=d1) rfl rfl n ag)
  simpa using this
 obtain⟨S,N,rfl,ag,i0,hR,bH,b8,nL,nM,Dw⟩:=arI (WE 0 28 v0 rfl rfl) aI VH;have hS:hJ.cells.toList=[hJ]:=by
  obtain⟨a,ln,axy,rfl⟩:=okWide_slice Tryz.underlying29 (WE 1 29 hJ rfl rfl)
  rfl
 have iK:Rows.uptoBulk nJ<=1048576:=by
  have ma:=jN X;simp only[List.append_nil,Rows.uptoBulkAll] at ma;omega
 obtain⟨nA,nB,dq,rfl,eg⟩:=avk F ef hS;clear acD aer;simp only[List.append_nil] at Vq;have aB:∀x∈m6++co,x.block<I.heap.size:=fun x J=>by simpa using Vq.lt x J
 obtain⟨anG,anH⟩:=avQ (show laidMetH Tryz.prog agu I from jR);refine(aqu I.heap.size I S N ag (aL _) (bL i0 iK) (bL hR iK) (bL bH iK) (bL b8 iK) (bL nL iK) (bL nM iK) (fun d U=>bL (Dw d U) iK) anG anH nA nB dq eg).mono ?_;rintro e axh ⟨rfl,bel⟩;have bp:Rows.aigBlastsSpec.fn H ([nJ,d1]++[])={results:=[.lit (.bool true)],args:=[nJ,d1]}:=rfl;refine⟨_,rfl,_,_,_,[],m6++co,[],Vq,?_,?_,?_,bel.frame _,fun h=>by cases h⟩
 ·show DataW.TrodAll _ _ _ _ _ _ _ _ (Rows.aigBlastsSpec.fn H ([nJ,d1]++[])).results _;rw[bp];exact trodAll_mk1 (shut_bool Tryz.underlying4 _)
 ·show DataW.TrodAll _ _ _ _ _ _ _ _ (Rows.aigBlastsSpec.fn H ([nJ,d1]++[])).args _;rw[bp];exact trodAll_mk2 (Below.trod abx (by kernel_rfl) (jN (by kernel_rfl)) aI bel (fun x J=>aB x (o7.2 (.inl J)))) (Below.trod abx (by kernel_rfl) (jN (by kernel_rfl)) F bel (fun x J=>aB x (o7.2 (.inr J))))
 ·rfl
theorem akp:Rows.AigBlastsUptoSaid :=
 OpenClaim.holds_of_cond 3 Tryz.f3 rfl rfl rfl rfl rfl rfl rfl ⟨rfl,rfl,rfl,rfl,rfl⟩ rfl rfl rfl rfl rfl (by kernel_rfl) Tryz.func3 (by kernel_rfl)
  (jN (by kernel_rfl)) (by unfold Func.isWrapper;first | (rw[if_pos (by decide +kernel)];kernel_rfl) | (rw[if_neg (by decide +kernel)];exact⟨rfl,rfl⟩))
  (fun os Yc H enc _ hZ=>by rw[OpenClaim.pre_eq_preRow];exact ako os Yc H enc hZ)
theorem aigBlasts_card:Rows.AigBlastsUptoCardSaid :=
 Claim7.holds_tied_plain_at .later [] _ _ _ _ akp (fun _ h=>by cases h) (by kernel_rfl) (fun _ h=>by cases h) aigBlastsUpto_row_tie rfl ⟨rfl,rfl⟩ (by kernel_rfl) rfl
  (fun f fn ah VK=>by
   obtain rfl:f=3:=Option.some.inj ((show Tryz.prog.funcNamed "gatewright/gatewrightlaw.AigBlasts" = some 3 by kernel_rfl).symm.trans ah) |>.symm
   obtain rfl:fn=Tryz.f3:=(Option.some.inj (Tryz.func3.symm.trans VK)).symm;exact⟨by kernel_rfl,fun j t eg=>by
    rw[Tryz.params3] at eg;have ae:t∈[28,29]:=by simpa using Array.mem_of_getElem? eg
    have Kw:([28,29].all fun u=>!Tryz.prog.wantsStandIn u)=true:=by kernel_rfl
    exact(show Tryz.prog.wantsStandIn t=false by simpa using k9.1 Kw t ae)⟩)
  (by kernel_rfl)
end Go.Proofs.YtcbcenfjigcfkaaGreatDoor
