import Derived.Test.YtcbcenfjigcfkaaGreatDoorK35
import Derived.LaidEql
import Derived.Stop.Asserts
import Derived.RowKitTokens
set_option maxRecDepth 100000
set_option maxHeartbeats 40000000
namespace Go.Proofs.YtcbcenfjigcfkaaGreatDoor
open Go.RowKit Go.Extern.Stop Go.Stop Go.Extern
theorem auj (t:Addr) (w:World):(ReflectliteValue.unpack (.iface 75 (.pointer (some t)))).run Tryz.prog w = .ok (.agg #[.pointer (some ⟨1,75,none⟩),.pointer (some ⟨w.heap.size,0,none⟩),.int .u64 150]) (w.alloc (.cells #[.pointer (some t)] 75)):=by kernel_rfl
theorem auk (e:Addr) (w:World):(ReflectliteValue.unpack (.iface 73 (.pointer (some e)))).run Tryz.prog w = .ok (.agg #[.pointer (some ⟨1,73,none⟩),.pointer (some ⟨w.heap.size,0,none⟩),.int .u64 150]) (w.alloc (.cells #[.pointer (some e)] 73)):=by kernel_rfl
theorem auo (a:Addr) (w:World):(ReflectliteValue.methodAny (ReflectliteValue.valueError "reflectlite.Value.Type" 0) (fun t _ _ _=>ReflectliteType.toType t) #[.agg #[.pointer (some ⟨1,75,none⟩),.pointer (some a),.int .u64 150]]).run Tryz.prog w = .ok (.iface 149 (.agg #[.pointer (some ⟨1,75,none⟩)])) w:=by kernel_rfl
theorem auh (x:Value) (w:World):(Go.method 301 149 (.agg #[x]) "Kind").run Tryz.prog w = .ok (120,x) w:=by kernel_rfl
theorem auf (x:Value) (w:World):(Go.method 301 149 (.agg #[x]) "Elem").run Tryz.prog w = .ok (130,.agg #[x]) w:=by kernel_rfl
theorem aug (x:Value) (w:World):(Go.method 301 149 (.agg #[x]) "Implements").run Tryz.prog w = .ok (131,.agg #[x]) w:=by kernel_rfl
theorem aue (x:Value) (w:World):(Go.method 301 149 (.agg #[x]) "AssignableTo").run Tryz.prog w = .ok (128,.agg #[x]) w:=by kernel_rfl
theorem aud (w:World):(((ReflectliteType.abiMethod fun t=>(fun a:Nat=>Value.int IntKind.u8 (a:Int)) <$> Rtype.kind t) #[.pointer (some ⟨1,75,none⟩)])).run Tryz.prog w = .ok (.int .u8 22) w:=by kernel_rfl
theorem auc (w:World):(((ReflectliteType.abiMethod fun t=>(fun a:Nat=>Value.int IntKind.u8 (a:Int)) <$> Rtype.kind t) #[.pointer (some ⟨1,73,none⟩)])).run Tryz.prog w = .ok (.int .u8 22) w:=by kernel_rfl
theorem at7 (w:World):(ReflectliteType.method ReflectliteType.elem #[.agg #[.pointer (some ⟨1,75,none⟩)]]).run Tryz.prog w = .ok (.iface 149 (.agg #[.pointer (some ⟨1,73,none⟩)])) w:=by kernel_rfl
theorem aua (w:World):(ReflectliteType.relation "Implements" ReflectliteType.implements_ #[.agg #[.pointer (some ⟨1,73,none⟩)],.iface 149 (.agg #[.pointer (some ⟨1,40,none⟩)])]).run Tryz.prog w = .ok (.bool true) w:=by kernel_rfl
theorem aup (v:Value) (w:World):(ReflectliteType.typeOf #[.iface 73 v]).run Tryz.prog w = .ok (.iface 149 (.agg #[.pointer (some ⟨1,73,none⟩)])) w:=by kernel_rfl
theorem at5 (w:World):(ReflectliteType.relation "AssignableTo" ReflectliteType.assignableTo #[.agg #[.pointer (some ⟨1,73,none⟩)],.iface 149 (.agg #[.pointer (some ⟨1,73,none⟩)])]).run Tryz.prog w = .ok (.bool true) w:=by kernel_rfl
theorem at8 (w:World):(Rtype.elem? 75).run Tryz.prog w = .ok (some 73) w:=by kernel_rfl
theorem aui (p:Addr) (w:World):(ReflectliteValue.mk 73 p ReflectliteValue.flagAddr).run Tryz.prog w = .ok (.agg #[.pointer (some ⟨1,73,none⟩),.pointer (some p),.int .u64 406]) w:=by kernel_rfl
theorem af6 (a:Addr) (w:World):(ReflectliteValue.parts (.agg #[.pointer (some ⟨1,75,none⟩),.pointer (some a),.int .u64 150])).run Tryz.prog w = .ok (some (75,a,150)) w:=by kernel_rfl
theorem aul (a:Addr) (w:World):(ReflectliteValue.parts (.agg #[.pointer (some ⟨1,73,none⟩),.pointer (some a),.int .u64 150])).run Tryz.prog w = .ok (some (73,a,150)) w:=by kernel_rfl
theorem aum (a:Addr) (w:World):(ReflectliteValue.parts (.agg #[.pointer (some ⟨1,73,none⟩),.pointer (some a),.int .u64 406])).run Tryz.prog w = .ok (some (73,a,406)) w:=by kernel_rfl
theorem at6 (w:World):(Rtype.directlyAssignable 73 73).run Tryz.prog w = .ok true w:=by kernel_rfl
theorem af5 (z:Sem Value) (g:TypeId->Addr->Nat->Nat->Sem Value) (v:Value) (t:TypeId) (a:Addr) (Ke:Nat) (I:World) (h:(ReflectliteValue.parts v).run Tryz.prog I = .ok (some (t,a,Ke)) I):(ReflectliteValue.method z g #[v]).run Tryz.prog I=(g t a Ke (Ke%32)).run Tryz.prog I:=by
 show(Sem.run Tryz.prog (do match <-ReflectliteValue.parts v with | none=>z | some (t,a,Ke)=>g t a Ke (Ke%32)) I)=_
 simp only[Sem.run_bind,h,Result.andThen]
theorem aub (a p:Addr) (I:World) (ad:I.cell? a=some (.pointer (some p))) :
  (ReflectliteValue.method (ReflectliteValue.valueError "reflectlite.Value.IsNil" 0) ReflectliteValue.isNil #[.agg #[.pointer (some ⟨1,75,none⟩),.pointer (some a),.int .u64 150]]).run Tryz.prog I = .ok (.bool false) I:=by
 rw[af5 _ _ _ _ _ _ I (af6 a I)];simp[ReflectliteValue.isNil,loadVar,isAgg,underlying,Tryz.underlying75,ad,Result.andThen]
theorem at9 (a p:Addr) (I:World) (ad:I.cell? a=some (.pointer (some p))) :
  (ReflectliteValue.method (ReflectliteValue.valueError "reflectlite.Value.Elem" 0) ReflectliteValue.elem #[.agg #[.pointer (some ⟨1,75,none⟩),.pointer (some a),.int .u64 150]]).run Tryz.prog I = .ok (.agg #[.pointer (some ⟨1,73,none⟩),.pointer (some p),.int .u64 406]) I:=by
 rw[af5 _ _ _ _ _ _ I (af6 a I)];simp[ReflectliteValue.elem,loadVar,isAgg,underlying,Tryz.underlying75,ad,Result.andThen,at8,aui]
theorem aun (nA b e:Addr) (i4:Value) (I:World) (D:I.cell? b=some (.pointer (some e))) (eg:I.cell? nA=some i4) (ah:I.frozen? nA=false) :
  (ReflectliteValue.set #[.agg #[.pointer (some ⟨1,73,none⟩),.pointer (some nA),.int .u64 406],.agg #[.pointer (some ⟨1,73,none⟩),.pointer (some b),.int .u64 150]]).run Tryz.prog I = .ok (.tuple #[]) (I.setCell nA (.pointer (some e))):=by
 show(Sem.run Tryz.prog (ReflectliteValue.parts (.agg #[.pointer (some ⟨1,73,none⟩),.pointer (some nA),.int .u64 406]) >>= fun r=>ReflectliteValue.parts (.agg #[.pointer (some ⟨1,73,none⟩),.pointer (some b),.int .u64 150]) >>= fun s=>_) I)=_
 simp only[Sem.run_bind,aum,aul,Result.andThen];simp[ReflectliteValue.flagAddr,loadVar,isAgg,underlying,Tryz.underlying73,D,Result.andThen,at6,storeVar,Value.cells,storeCells,Addr.add];rw[run_store Tryz.prog I nA _ _ (by rfl)];simp[eg,ah]
theorem abF (e t:Addr) (i4:Value) (w:World) (af:w.cell? ⟨0,0,none⟩=some (.iface 149 (.agg #[.pointer (some ⟨1,40,none⟩)]))) (ael:w.cell? t=some i4) (VH:w.frozen? t=false) :
  Calls Tryz.prog 30 #[.iface 73 (.pointer (some e)),.iface 75 (.pointer (some t))] w fun yu B=>yu = .returned (.bool true)∧∃P0,V w P0∧B=P0.setCell t (.pointer (some e)):=by
 have c1:=@run_callFunc_extern Tryz.prog 59 _ (fun args=>ReflectliteValue.unpack (args.getD 0 (.tuple #[]))) Tryz.func59 (by kernel_rfl) (by kernel_rfl) (by kernel_rfl) (by kernel_rfl);have c2:=@run_callFunc_extern Tryz.prog 60 _ (ReflectliteValue.methodAny (ReflectliteValue.valueError "reflectlite.Value.Type" 0) (fun t _ _ _=>ReflectliteType.toType t)) Tryz.func60 (by kernel_rfl) (by kernel_rfl) (by kernel_rfl) (by kernel_rfl)
 have c3:=@run_callFunc_extern Tryz.prog 61 _ (ReflectliteValue.method (ReflectliteValue.valueError "reflectlite.Value.IsNil" 0) ReflectliteValue.isNil) Tryz.func61 (by kernel_rfl) (by kernel_rfl) (by kernel_rfl) (by kernel_rfl)
 have c4:=@run_callFunc_extern Tryz.prog 120 _ (ReflectliteType.abiMethod fun t=>do pure (.int .u8 (<-Rtype.kind t))) Tryz.func120 (by kernel_rfl) (by kernel_rfl) (by kernel_rfl) (by kernel_rfl);have c5:=@run_callFunc_extern Tryz.prog 130 _ (ReflectliteType.method ReflectliteType.elem) Tryz.func130 (by kernel_rfl) (by kernel_rfl) (by kernel_rfl) (by kernel_rfl);have rt:=@run_callFunc_extern Tryz.prog 131 _ (ReflectliteType.relation "Implements" ReflectliteType.implements_) Tryz.func131 (by kernel_rfl) (by kernel_rfl) (by kernel_rfl) (by kernel_rfl)
 have alj:=@run_callFunc_extern Tryz.prog 85 _ ReflectliteType.typeOf Tryz.func85 (by kernel_rfl) (by kernel_rfl) (by kernel_rfl) (by kernel_rfl);have Fi:=@run_callFunc_extern Tryz.prog 128 _ (ReflectliteType.relation "AssignableTo" ReflectliteType.assignableTo) Tryz.func128 (by kernel_rfl) (by kernel_rfl) (by kernel_rfl) (by kernel_rfl)
 have sH:=@run_callFunc_extern Tryz.prog 86 _ (ReflectliteValue.method (ReflectliteValue.valueError "reflectlite.Value.Elem" 0) ReflectliteValue.elem) Tryz.func86 (by kernel_rfl) (by kernel_rfl) (by kernel_rfl) (by kernel_rfl)
 have axr:=@run_callFunc_extern Tryz.prog 87 _ ReflectliteValue.set Tryz.func87 (by kernel_rfl) (by kernel_rfl) (by kernel_rfl) (by kernel_rfl);have io:=auj;have jM:=auk;have lZ:=auo;have oG:=auh;have AP:=auf;have aAk:=aug;have aAl:=aue;have aAm:=aud;have aAn:=auc;have aAg:=at7;have aAh:=aua;have aAi:=aup;have aAj:=at5;have s1:=aub ⟨w.heap.size,0,none⟩ t ((w.alloc (.cells #[.pointer (some t)] 75)).alloc (.cells #[.pointer (some ⟨1,75,none⟩),.pointer (some ⟨w.heap.size,0,none⟩),.int .u64 150] 120)) (by simp);have aB:0<w.heap.size:=by
  rcases Nat.eq_zero_or_pos w.heap.size with aI | h
  ·simp[World.cell?,aI] at af
  ·exact h
 have uz:((w.alloc (.cells #[.pointer (some t)] 75)).alloc (.cells #[.pointer (some ⟨1,75,none⟩),.pointer (some ⟨w.heap.size,0,none⟩),.int .u64 150] 120)).cell? ⟨0,0,none⟩=some (.iface 149 (.agg #[.pointer (some ⟨1,40,none⟩)])):=by
  rw[nb _ _ ⟨0,0,none⟩ (by simp),nb _ _ ⟨0,0,none⟩ aB];exact af
 have aen:t.block<w.heap.size:=World.block_lt_of_cell? w _ ael;have Bj:=at9 ⟨w.heap.size,0,none⟩ t (((w.alloc (.cells #[.pointer (some t)] 75)).alloc (.cells #[.pointer (some ⟨1,75,none⟩),.pointer (some ⟨w.heap.size,0,none⟩),.int .u64 150] 120)).alloc (.cells #[.pointer (some ⟨1,75,none⟩),.pointer (some ⟨w.heap.size,0,none⟩),.int .u64 150] 120)) (by rw[nb _ _ ⟨w.heap.size,0,none⟩ (by simp;omega)];simp);have af9:=aun t ⟨w.heap.size+1+1+1,0,none⟩ e i4 ((((w.alloc (.cells #[.pointer (some t)] 75)).alloc (.cells #[.pointer (some ⟨1,75,none⟩),.pointer (some ⟨w.heap.size,0,none⟩),.int .u64 150] 120)).alloc (.cells #[.pointer (some ⟨1,75,none⟩),.pointer (some ⟨w.heap.size,0,none⟩),.int .u64 150] 120)).alloc (.cells #[.pointer (some e)] 73))
  (by rw[World.cell?_alloc_at _ _ _ _ (by simp)];rfl)
  (by rw[nb _ _ t (by simp;omega),nb _ _ t (by simp;omega),nb _ _ t (by simp;omega),nb _ _ t aen];exact ael)
  (by rw[World.frozen?_alloc_old _ _ t (by simp;omega),World.frozen?_alloc_old _ _ t (by simp;omega),World.frozen?_alloc_old _ _ t (by simp;omega),World.frozen?_alloc_old _ _ t (Nat.ne_of_lt aen)];exact VH)
 go_enter Tryz.func30,Tryz.ntmps30
 go_wp2;refine wp_loop_rounds 1 ?_;rw[rounds_succ];go_wp2;go_ret
 exact⟨rfl,((((w.alloc (.cells #[.pointer (some t)] 75)).alloc (.cells #[.pointer (some ⟨1,75,none⟩),.pointer (some ⟨w.heap.size,0,none⟩),.int .u64 150] 120)).alloc (.cells #[.pointer (some ⟨1,75,none⟩),.pointer (some ⟨w.heap.size,0,none⟩),.int .u64 150] 120)).alloc (.cells #[.pointer (some e)] 73)),((((ax _ _).alloc (aL _) _).alloc (by simp) _).alloc (by simp;omega) _).alloc (by simp;omega) _,rfl⟩
end Go.Proofs.YtcbcenfjigcfkaaGreatDoor
