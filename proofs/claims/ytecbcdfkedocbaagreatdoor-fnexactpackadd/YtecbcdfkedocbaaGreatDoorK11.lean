/- Gathered: ChkAs. -/
import Derived.Test.YtecbcdfkedocbaaGreatDoorG01
import Derived.WalkKit
import Derived.LaidEql
import Derived.Stop.Asserts
import Derived.RowKitTokens
namespace Go.Proofs.YtecbcdfkedocbaaGreatDoor
open Go.RowKit Go.Extern.Stop Go.Stop Go.Extern
set_option linter.unusedVariables false
set_option maxRecDepth 20000
theorem as_nil (t:Value) (w:World) :
  Calls Tryz.prog 49 #[.nilIface,t] w fun e w'=>e=.returned (.bool false)∧w'=w:=by
 go_enter Tryz.func49,Tryz.ntmps49
 go_wp2
 go_ret
 exact ⟨rfl,rfl⟩
theorem rf_valueOfP (t:Addr) (w:World):(ReflectliteValue.unpack (.iface 89 (.pointer (some t)))).run Tryz.prog w
  = .ok (.agg #[.pointer (some ⟨3,89,none⟩),.pointer (some ⟨w.heap.size,0,none⟩),.int .u64 150]) (w.alloc (.cells #[.pointer (some t)] 89)):=by kernel_rfl
theorem rf_typeP (a:Addr) (w:World):(ReflectliteValue.methodAny (ReflectliteValue.valueError "reflectlite.Value.Type" 0) (fun t _ _ _=>ReflectliteType.toType t) #[.agg #[.pointer (some ⟨3,89,none⟩),.pointer (some a),.int .u64 150]]).run Tryz.prog w
  = .ok (.iface 182 (.agg #[.pointer (some ⟨3,89,none⟩)])) w:=by kernel_rfl
theorem rf_methodKind (h:Value) (w:World):(Go.method 188 182 (.agg #[h]) "Kind").run Tryz.prog w=.ok (275,h) w:=by kernel_rfl
theorem rf_kindP (w:World):((ReflectliteType.abiMethod fun t=>(fun a:Nat=>Value.int IntKind.u8 (a:Int)) <$> Rtype.kind t) #[.pointer (some ⟨3,89,none⟩)]).run Tryz.prog w=.ok (.int .u8 22) w:=by kernel_rfl
theorem rf_kindS (w:World):((ReflectliteType.abiMethod fun t=>(fun a:Nat=>Value.int IntKind.u8 (a:Int)) <$> Rtype.kind t) #[.pointer (some ⟨3,84,none⟩)]).run Tryz.prog w=.ok (.int .u8 25) w:=by kernel_rfl
theorem one_of (v:Value) (h1:Value→Sem Value) (h2:Array Value→Sem Value):ReflectliteValue.method.match_2 (fun _=>Sem Value) #[v] h1 h2=h1 v:=rfl
theorem two_of (v x:Value) (h1:Value→Value→Sem Value) (h2:Array Value→Sem Value):ReflectliteValue.set.match_3 (fun _=>Sem Value) #[v,x] h1 h2=h1 v x:=rfl
theorem rf_partsP (a:Addr) (w:World):(ReflectliteValue.parts (.agg #[.pointer (some ⟨3,89,none⟩),.pointer (some a),.int .u64 150])).run Tryz.prog w=.ok (some (89,a,150)) w:=by kernel_rfl
theorem rf_isNilP (a p:Addr) (W:World) (ha:W.cell? a=some (.pointer (some p))) :
  (ReflectliteValue.method (ReflectliteValue.valueError "reflectlite.Value.IsNil" 0) ReflectliteValue.isNil #[.agg #[.pointer (some ⟨3,89,none⟩),.pointer (some a),.int .u64 150]]).run Tryz.prog W=.ok (.bool false) W:=by
 delta ReflectliteValue.method
 rw [one_of]
 simp only [Sem.run_bind,rf_partsP,Result.andThen]
 simp [ReflectliteValue.isNil,loadVar,isAgg,underlying,Tryz.underlying89,ha,Result.andThen]
theorem rf_methodElem (h:Value) (w:World):(Go.method 188 182 (.agg #[h]) "Elem").run Tryz.prog w=.ok (285,.agg #[h]) w:=by kernel_rfl
theorem rf_methodImplements (h:Value) (w:World):(Go.method 188 182 (.agg #[h]) "Implements").run Tryz.prog w=.ok (286,.agg #[h]) w:=by kernel_rfl
theorem rf_methodAssignableTo (h:Value) (w:World):(Go.method 188 182 (.agg #[h]) "AssignableTo").run Tryz.prog w=.ok (283,.agg #[h]) w:=by kernel_rfl
theorem rf_elemP (w:World):(ReflectliteType.method ReflectliteType.elem #[.agg #[.pointer (some ⟨3,89,none⟩)]]).run Tryz.prog w=.ok (.iface 182 (.agg #[.pointer (some ⟨3,84,none⟩)])) w:=by kernel_rfl
theorem rf_implementsS (w:World):(ReflectliteType.relation "Implements" ReflectliteType.implements_ #[.agg #[.pointer (some ⟨3,84,none⟩)],.iface 182 (.agg #[.pointer (some ⟨3,87,none⟩)])]).run Tryz.prog w=.ok (.bool true) w:=by kernel_rfl
theorem rf_typeOfS (v:Value) (w:World):(ReflectliteType.typeOf #[.iface 84 v]).run Tryz.prog w=.ok (.iface 182 (.agg #[.pointer (some ⟨3,84,none⟩)])) w:=by kernel_rfl
theorem rf_assignableS (w:World):(ReflectliteType.relation "AssignableTo" ReflectliteType.assignableTo #[.agg #[.pointer (some ⟨3,84,none⟩)],.iface 182 (.agg #[.pointer (some ⟨3,84,none⟩)])]).run Tryz.prog w=.ok (.bool true) w:=by kernel_rfl
theorem rf_valueOfS (n:Int) (w:World):(ReflectliteValue.unpack (.iface 84 (.agg #[.int .i64 n]))).run Tryz.prog w
  = .ok (.agg #[.pointer (some ⟨3,84,none⟩),.pointer (some ⟨w.heap.size,0,none⟩),.int .u64 153]) (w.alloc (.cells #[.int .i64 n] 84)):=by kernel_rfl
theorem rf_elemOfP (w:World):(Rtype.elem? 89).run Tryz.prog w=.ok (some 84) w:=by kernel_rfl
theorem rf_mkS (p:Addr) (w:World):(ReflectliteValue.mk 84 p ReflectliteValue.flagAddr).run Tryz.prog w=.ok (.agg #[.pointer (some ⟨3,84,none⟩),.pointer (some p),.int .u64 409]) w:=by kernel_rfl
theorem rf_elemVP (a p:Addr) (W:World) (ha:W.cell? a=some (.pointer (some p))) :
  (ReflectliteValue.method (ReflectliteValue.valueError "reflectlite.Value.Elem" 0) ReflectliteValue.elem #[.agg #[.pointer (some ⟨3,89,none⟩),.pointer (some a),.int .u64 150]]).run Tryz.prog W
   = .ok (.agg #[.pointer (some ⟨3,84,none⟩),.pointer (some p),.int .u64 409]) W:=by
 delta ReflectliteValue.method
 rw [one_of]
 simp only [Sem.run_bind,rf_partsP,Result.andThen]
 simp [ReflectliteValue.elem,loadVar,isAgg,underlying,Tryz.underlying89,ha,Result.andThen,rf_elemOfP,rf_mkS]
theorem rf_partsSa (a:Addr) (w:World):(ReflectliteValue.parts (.agg #[.pointer (some ⟨3,84,none⟩),.pointer (some a),.int .u64 409])).run Tryz.prog w=.ok (some (84,a,409)) w:=by kernel_rfl
theorem rf_partsS (a:Addr) (w:World):(ReflectliteValue.parts (.agg #[.pointer (some ⟨3,84,none⟩),.pointer (some a),.int .u64 153])).run Tryz.prog w=.ok (some (84,a,153)) w:=by kernel_rfl
theorem rf_directS (w:World):(Rtype.directlyAssignable 84 84).run Tryz.prog w=.ok true w:=by kernel_rfl
theorem rf_setS (k j:Nat) (n:Int) (old:Value) (W:World) (hb:W.cell? ⟨j,0,none⟩=some (.int .i64 n)) (ht:W.cell? ⟨k,0,none⟩=some old) (hf:W.frozen? ⟨k,0,none⟩=false) :
  (ReflectliteValue.set #[.agg #[.pointer (some ⟨3,84,none⟩),.pointer (some ⟨k,0,none⟩),.int .u64 409],.agg #[.pointer (some ⟨3,84,none⟩),.pointer (some ⟨j,0,none⟩),.int .u64 153]]).run Tryz.prog W
   = .ok (.tuple #[]) (W.setCell ⟨k,0,none⟩ (.int .i64 n)):=by
 delta ReflectliteValue.set
 rw [two_of]
 simp only [Sem.run_bind,rf_partsSa,rf_partsS,Result.andThen]
 simp [ReflectliteValue.flagAddr,loadVar,isAgg,underlying,Tryz.underlying84,Result.andThen,rf_directS,storeVar,Value.cells,storeCells,Addr.add]
 rw [show (loadCells ⟨j,0,none⟩ 1).run Tryz.prog W=.ok #[.int .i64 n] W from (run_loadCells_list (P:=Tryz.prog) W ⟨j,0,none⟩ [.int .i64 n] (fun i v hi=>by
  match i,hi with
  | 0,hi=>rw [addr_add];rw [← hi];exact hb))]
 simp [storeCells,Addr.add]
 rw [run_store Tryz.prog W _ _ _ (by rfl)]
 simp [ht,hf]
set_option maxHeartbeats 4000000 in
theorem as_hit (k:Nat) (n:Int) (old:Value) (w:World) (hg:w.cell? ⟨0,0,none⟩=some (.iface 182 (.agg #[.pointer (some ⟨3,87,none⟩)]))) (ht0:w.cell? ⟨k,0,none⟩=some old) (hf0:w.frozen? ⟨k,0,none⟩=false) :
  Calls Tryz.prog 49 #[.iface 84 (.agg #[.int .i64 n]),.iface 89 (.pointer (some ⟨k,0,none⟩))] w fun ev w'=>ev=.returned (.bool true)∧w'=((((w.alloc (.cells #[.pointer (some ⟨k,0,none⟩)] 89)).alloc (.cells #[.pointer (some ⟨3,89,none⟩),.pointer (some ⟨w.heap.size,0,none⟩),.int .u64 150] 126)).alloc (.cells #[.pointer (some ⟨3,89,none⟩),.pointer (some ⟨w.heap.size,0,none⟩),.int .u64 150] 126)).alloc (.cells #[.int .i64 n] 84)).setCell ⟨k,0,none⟩ (.int .i64 n):=by
 have h6:=@run_callFunc_extern Tryz.prog 88 _ (fun args=>ReflectliteValue.unpack (args.getD 0 (.tuple #[]))) Tryz.func88 (by kernel_rfl) (by kernel_rfl) (by kernel_rfl) (by kernel_rfl)
 have h7:=@run_callFunc_extern Tryz.prog 89 _ (ReflectliteValue.methodAny (ReflectliteValue.valueError "reflectlite.Value.Type" 0) (fun t _ _ _=>ReflectliteType.toType t)) Tryz.func89 (by kernel_rfl) (by kernel_rfl) (by kernel_rfl) (by kernel_rfl)
 have h8:=@run_callFunc_extern Tryz.prog 90 _ (ReflectliteValue.method (ReflectliteValue.valueError "reflectlite.Value.IsNil" 0) ReflectliteValue.isNil) Tryz.func90 (by kernel_rfl) (by kernel_rfl) (by kernel_rfl) (by kernel_rfl)
 have h27:=@run_callFunc_extern Tryz.prog 275 _ (ReflectliteType.abiMethod fun t=>do pure (.int .u8 (← Rtype.kind t))) Tryz.func275 (by kernel_rfl) (by kernel_rfl) (by kernel_rfl) (by kernel_rfl)
 have h37:=@run_callFunc_extern Tryz.prog 285 _ (ReflectliteType.method ReflectliteType.elem) Tryz.func285 (by kernel_rfl) (by kernel_rfl) (by kernel_rfl) (by kernel_rfl)
 have h38:=@run_callFunc_extern Tryz.prog 286 _ (ReflectliteType.relation "Implements" ReflectliteType.implements_) Tryz.func286 (by kernel_rfl) (by kernel_rfl) (by kernel_rfl) (by kernel_rfl)
 have h10:=@run_callFunc_extern Tryz.prog 128 _ ReflectliteType.typeOf Tryz.func128 (by kernel_rfl) (by kernel_rfl) (by kernel_rfl) (by kernel_rfl)
 have h35:=@run_callFunc_extern Tryz.prog 283 _ (ReflectliteType.relation "AssignableTo" ReflectliteType.assignableTo) Tryz.func283 (by kernel_rfl) (by kernel_rfl) (by kernel_rfl) (by kernel_rfl)
 have h11:=@run_callFunc_extern Tryz.prog 129 _ (ReflectliteValue.method (ReflectliteValue.valueError "reflectlite.Value.Elem" 0) ReflectliteValue.elem) Tryz.func129 (by kernel_rfl) (by kernel_rfl) (by kernel_rfl) (by kernel_rfl)
 have h12:=@run_callFunc_extern Tryz.prog 130 _ ReflectliteValue.set Tryz.func130 (by kernel_rfl) (by kernel_rfl) (by kernel_rfl) (by kernel_rfl)
 have tO:=rf_typeOfS
 have mA:=rf_methodAssignableTo
 have a25:=rf_assignableS
 have v25:=rf_valueOfS
 have f6:=rf_valueOfP
 have f7:=rf_typeP
 have mK:=rf_methodKind
 have mE:=rf_methodElem
 have mI:=rf_methodImplements
 have k27:=rf_kindP
 have k25:=rf_kindS
 have e27:=rf_elemP
 have i25:=rf_implementsS
 have n8:=rf_isNilP ⟨w.heap.size,0,none⟩ ⟨k,0,none⟩ ((w.alloc (.cells #[.pointer (some ⟨k,0,none⟩)] 89)).alloc (.cells #[.pointer (some ⟨3,89,none⟩),.pointer (some ⟨w.heap.size,0,none⟩),.int .u64 150] 126)) (by simp)
 have hlt:0<w.heap.size:=by
  rcases Nat.eq_zero_or_pos w.heap.size with h0|h
  ·simp [World.cell?,h0] at hg
  ·exact h
 have hg2:((w.alloc (.cells #[.pointer (some ⟨k,0,none⟩)] 89)).alloc (.cells #[.pointer (some ⟨3,89,none⟩),.pointer (some ⟨w.heap.size,0,none⟩),.int .u64 150] 126)).cell? ⟨0,0,none⟩=some (.iface 182 (.agg #[.pointer (some ⟨3,87,none⟩)])):=by
  rw [World.cell?_alloc_lt _ _ ⟨0,0,none⟩ (by simp),World.cell?_alloc_lt _ _ ⟨0,0,none⟩ hlt];exact hg
 have htl:k<w.heap.size:=by
  rcases Nat.lt_or_ge k w.heap.size with h|h
  ·exact h
  ·simp [World.cell?,Array.getElem?_eq_none h] at ht0
 have el:=rf_elemVP ⟨w.heap.size,0,none⟩ ⟨k,0,none⟩ (((w.alloc (.cells #[.pointer (some ⟨k,0,none⟩)] 89)).alloc (.cells #[.pointer (some ⟨3,89,none⟩),.pointer (some ⟨w.heap.size,0,none⟩),.int .u64 150] 126)).alloc (.cells #[.pointer (some ⟨3,89,none⟩),.pointer (some ⟨w.heap.size,0,none⟩),.int .u64 150] 126)) (by rw [World.cell?_alloc_lt _ _ ⟨w.heap.size,0,none⟩ (by simp;omega)];simp)
 have st:=rf_setS k (w.heap.size+1+1+1) n old ((((w.alloc (.cells #[.pointer (some ⟨k,0,none⟩)] 89)).alloc (.cells #[.pointer (some ⟨3,89,none⟩),.pointer (some ⟨w.heap.size,0,none⟩),.int .u64 150] 126)).alloc (.cells #[.pointer (some ⟨3,89,none⟩),.pointer (some ⟨w.heap.size,0,none⟩),.int .u64 150] 126)).alloc (.cells #[.int .i64 n] 84))
  (by rw [World.cell?_alloc_at _ _ _ _ (by simp)];rfl)
  (by rw [World.cell?_alloc_lt _ _ ⟨k,0,none⟩ (by simp;omega),World.cell?_alloc_lt _ _ ⟨k,0,none⟩ (by simp;omega),World.cell?_alloc_lt _ _ ⟨k,0,none⟩ (by simp;omega),World.cell?_alloc_lt _ _ ⟨k,0,none⟩ htl];exact ht0)
  (by rw [World.frozen?_alloc_old _ _ ⟨k,0,none⟩ (by simp;omega),World.frozen?_alloc_old _ _ ⟨k,0,none⟩ (by simp;omega),World.frozen?_alloc_old _ _ ⟨k,0,none⟩ (by simp;omega),World.frozen?_alloc_old _ _ ⟨k,0,none⟩ (Nat.ne_of_lt htl)];exact hf0)
 go_enter Tryz.func49,Tryz.ntmps49
 go_wp2
 refine wp_loop_rounds 1 ?_
 rw [rounds_succ]
 go_wp2
 go_ret
 exact ⟨rfl,rfl⟩
end Go.Proofs.YtecbcdfkedocbaaGreatDoor
