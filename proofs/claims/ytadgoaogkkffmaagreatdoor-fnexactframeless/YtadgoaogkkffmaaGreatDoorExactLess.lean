/- Proved: the law FnExactFrameLess returns true at every class and leaves its argument as it was, where the table of ops and the variable by which errors.As knows an error read as the program's text lays them (the card ties them): FrameLess of the program answers as the specification's, at every argument, writes into none, and what it answers is its own (it stands as it was when all that the argument reaches is turned, and what of it is turned holds still). No other condition. -/
import Derived.Test.YtadgoaogkkffmaaGreatDoorClosed
import Derived.Test.YtadgoaogkkffmaaGreatDoorCards
import Derived.Test.YtadgoaogkkffmaaGreatDoorTie
import Derived.Test.YtadgoaogkkffmaaGreatDoorLessWalk
import Derived.Deep.Slices
import Derived.Deep.Strs
import Derived.Lib.SmallJoins
import Derived.WalkKit
import Derived.ProofKit
import Derived.OpenShut
import Derived.ShutString
import Derived.OpenVars
import Derived.ChangeOld
import Derived.Deep.DeepHandedRow
import Derived.Lib.LaidTab
import Derived.LaidHandle
import Derived.LaidLaws
namespace Go.Proofs.YtadgoaogkkffmaaGreatDoor.fnExactFrameLess
open Go.ChangeShapes Go.WideShapes Go.ChangeAt Go.RowKit
open Go.ChangeMaps (open_string shut_string)
open Mx
set_option linter.unusedVariables false
set_option maxHeartbeats 2000000
set_option maxRecDepth 20000
theorem own:ownKnob Tryz.prog.godebug=none:=by kernel_rfl
theorem laidOut:laidOutB Tryz.prog=true:=by kernel_rfl
theorem gTab:Tryz.prog.globalNamed "loop.example/stowage/impl.opBehind" = some 1:=by kernel_rfl
theorem gTabType:(Tryz.prog.globals[1]?).map (·.type)=some 299:=by kernel_rfl
theorem cellsT:Tryz.prog.cellsOf 299=35:=by kernel_rfl
theorem cellsI:Tryz.prog.cellsOf 3=1:=by kernel_rfl
theorem rowed:varsRowed Tryz.prog ["loop.example/stowage/impl.opBehind"]=true:=by kernel_rfl
theorem et:Tryz.prog.globalNamed "errors.errorType" = some 0:=by kernel_rfl
theorem rt:(Tryz.prog.cutTypes.find? (·.1 == "internal/reflectlite.rtype")).map (·.2)=some 175:=by kernel_rfl
theorem oneRow:((List.range 394).filter fun t=>Tryz.prog.rowNamed t [101,114,114,111,114])=[65]:=by kernel_rfl
theorem tsize:Tryz.prog.types.size=394:=by kernel_rfl
theorem parts {W:World} (h:laidMetH Tryz.prog Rows.fnExactFrameLessRow.laid W):laidMet Tryz.prog [("loop.example/stowage/impl.opBehind",Rows.laid_loop_example_stowage_impl_opBehind)] W∧handlesMet Tryz.prog [("errors.errorType",Rows.laid_errors_errorType)] W:=h
theorem table {W:World} (h:laidMetH Tryz.prog Rows.fnExactFrameLessRow.laid W):Lib.TabIs Tryz.prog W "loop.example/stowage/impl.opBehind" .i64 tab:=
 Lib.tabIs_of_head (rest:=[]) gTab gTabType Tryz.underlying299 Tryz.underlying3 cellsI cellsT (parts h).1
theorem tabOf {W:World} (h:laidMetH Tryz.prog Rows.fnExactFrameLessRow.laid W):Tab W:=by
 have hc:∀ k,k<35→W.cell? ⟨1,k,none⟩=some (.int .i64 (tab.getD k 0)):=fun k hk=>(table h).cell gTab k (by exact hk)
 exact ⟨World.block_lt_of_cell? W _ (hc 0 (by omega)),hc⟩
theorem errOf {W:World} (h:laidMetH Tryz.prog Rows.fnExactFrameLessRow.laid W):ErrW W:=by
 obtain ⟨name,u,ty,e1,e2,e3,e4,e5⟩:=(parts h).2 _ (List.mem_singleton.2 rfl)
 have en:name=[101,114,114,111,114]:=(Option.some.inj e1).symm
 subst en
 obtain rfl:=Option.some.inj (rt.symm.trans e2)
 have hm:ty∈(List.range 394).filter fun t=>Tryz.prog.rowNamed t [101,114,114,111,114]:=List.mem_filter.2 ⟨List.mem_range.2 (by rw [← tsize];exact e3),e4⟩
 rw [oneRow] at hm
 obtain rfl:=List.mem_singleton.1 hm
 have hh:typeHandle Tryz.prog 65=.pointer (some ⟨6,65,none⟩):=by kernel_rfl
 rw [hh] at e5
 unfold ErrW
 simpa using World.var?_cell et e5 0
theorem contract (H:Type) (enc:TypeId × Value→H) (W:World) (base:Nat) (args:Array Value) (ds gs:List (DataW H)) (before:List MemPlace)
  (hval:∀ (j:Nat) t v,Tryz.f4.params[j]? = some t→args[j]? = some v→Value.okWide Tryz.prog W .any base t v)
  (hW:DataW.Whole enc Tryz.prog Tryz.f4.params.toList Rows.fnExactFrameLessSpec.vars false W args.toList ds gs before) (hL:laidMetH Tryz.prog Rows.fnExactFrameLessRow.laid W) :
  Calls Tryz.prog 4 args W fun e W'=>∃ v,e=.returned v∧Rows.fnExactFrameLessSpec.post enc Tryz.prog Tryz.f4 false true false false W args v W':=by
 have hW':=hW
 obtain ⟨p,q,hA0,hV,rfl,hfz,hnd⟩:=hW
 have hA:DataW.TrodAll enc Tryz.prog W 0 (fun _=>true) true Tryz.f4.params.toList args.toList ds p:=hA0
 rw [Tryz.params4] at hA hval
 obtain ⟨v0,vs0,d0,ds0,p0,q0,hargs,rfl,rfl,h0,r0⟩:=trodAll_cons hA
 obtain ⟨rfl,rfl,rfl⟩:=trodAll_nil r0
 obtain rfl:args=#[v0]:=by cases args;simp_all
 obtain ⟨cs,rfl,hcs⟩:=okWide_struct Tryz.underlying27 (hval 0 27 v0 rfl rfl)
 have k0:=h0
 have lt0:∀ x∈p0,x.block<W.heap.size:=by obtain ⟨m,hm⟩:=k0;exact DataW.trod_lt m _ _ _ hm
 obtain ⟨c,ap,lp,cp,ai,li,ci,af,lf,cf,am,lm,cm,hl,hC⟩:∃ (c:MClass) (ap:Option Addr) (lp cp:Nat) (ai:Option Addr) (li ci:Nat) (af:Option Addr) (lf cf:Nat) (am:Option Addr) (lm cm:Nat),cs.toList=[.slice ap lp cp,.int .i64 c.flags,.int .i64 c.name,.int .i64 c.super,.slice ai li ci,.slice af lf cf,.slice am lm cm]∧ArgCl W ap lp ai li af lf am lm c:=by
  obtain ⟨fuel,hf⟩:=h0
  exact class_of (by simpa [Value.cells] using hf)
 obtain rfl:cs=#[.slice ap lp cp,.int .i64 c.flags,.int .i64 c.name,.int .i64 c.super,.slice ai li ci,.slice af lf cf,.slice am lm cm]:=by cases cs;simp_all
 have hV2:DataW.TrodVars enc Tryz.prog W (fun _=>true) ["loop.example/stowage/impl.opBehind"] gs q:=hV
 obtain ⟨g1,hg1⟩:∃ g1,gs=[g1]:=by
  obtain ⟨_,_,_,_,d,_,h,_⟩:=trodVars_one hV2
  exact ⟨d,h⟩
 subst hg1
 clear hA0
 refine (walk c ap lp cp ai li ci af lf cf am lm cm W (tabOf hL) (errOf hL) hC).mono fun e W' ⟨he,bel⟩=>?_
 subst he
 exact ⟨_,rfl,_,_,_,[],_,q,hW',trodAll_mk1 (shut_bool Tryz.underlying4 _),(trodAll_cons_mk (Below.trod laidOut (by kernel_rfl) (of_decide_eq_true (by kernel_rfl)) k0 bel lt0) trodAll_mk0),Below.trodVars laidOut bel rowed hV2,bel.frame _,fun h=>by cases h⟩
theorem laid_met (os:Os):laidMetH Tryz.prog Rows.fnExactFrameLessRow.laid (({ World.holding Tryz.prog os ⟨#[],#[],[]⟩ with heap:=((World.holding Tryz.prog os ⟨#[],#[],[]⟩).heap.modify 1 fun|.cells _ t frozen=>.cells (tab.map (Value.int .i64)).toArray t frozen|o=>o).modify 0 fun|.cells _ t frozen=>.cells #[.iface 175 (.agg #[.pointer (some ⟨6,65,none⟩)])] t frozen|o=>o }:World).forCall (fun _ _=>0) ⟨#[],#[.agg #[.slice none 0 0,.int .i64 0,.int .i64 0,.int .i64 0,.slice none 0 0,.slice none 0 0,.slice none 0 0]],[]⟩).memory:=
 laidMetH_of_parts (laidMet_of_run' 8 (by kernel_rfl) (by kernel_rfl)) (by kernel_rfl)
theorem reads (os:Os) {H:Type} (enc:TypeId × Value→H):∃ places,DataW.whole enc Tryz.prog (({ World.holding Tryz.prog os ⟨#[],#[],[]⟩ with heap:=((World.holding Tryz.prog os ⟨#[],#[],[]⟩).heap.modify 1 fun|.cells _ t frozen=>.cells (tab.map (Value.int .i64)).toArray t frozen|o=>o).modify 0 fun|.cells _ t frozen=>.cells #[.iface 175 (.agg #[.pointer (some ⟨6,65,none⟩)])] t frozen|o=>o }:World).forCall (fun _ _=>0) ⟨#[],#[.agg #[.slice none 0 0,.int .i64 0,.int .i64 0,.int .i64 0,.slice none 0 0,.slice none 0 0,.slice none 0 0]],[]⟩).memory Tryz.f4.params.toList Rows.fnExactFrameLessSpec.vars false #[Value.agg #[.slice none 0 0,.int .i64 0,.int .i64 0,.int .i64 0,.slice none 0 0,.slice none 0 0,.slice none 0 0]].toList 8=some ([.agg [.nil,.lit (.int .i64 0),.lit (.int .i64 0),.lit (.int .i64 0),.nil,.nil,.nil]],[Rows.laid_loop_example_stowage_impl_opBehind],places):=
 ⟨MemPlace.row ⟨1,0,none⟩ 35,by kernel_rfl⟩
set_option maxRecDepth 100000 in
theorem lifted (os:Os) (started:os.Started) (H:Type) (enc:TypeId × Value→H) (F:Stop.Interp) :
  ReturnsInHanded {} Tryz.checked os 4 .any ((OpenSpec.ofChange Rows.fnExactFrameLessSpec).preRow enc Tryz.prog Tryz.f4 Rows.fnExactFrameLessRow.domain false Rows.fnExactFrameLessRow.laid) (((OpenSpec.ofChange Rows.fnExactFrameLessSpec).at F).post enc Tryz.prog Tryz.f4 false true false false):=by
 obtain ⟨places,hx⟩:=reads os enc
 refine returnsInHanded_of_row (C:=Tryz.checked) (s:=OpenSpec.ofChange Rows.fnExactFrameLessSpec) own started (by kernel_rfl) Tryz.func4
  (witness_row_at (enc:=enc) (C:=Tryz.checked) false ({ World.holding Tryz.prog os ⟨#[],#[],[]⟩ with heap:=((World.holding Tryz.prog os ⟨#[],#[],[]⟩).heap.modify 1 fun|.cells _ t frozen=>.cells (tab.map (Value.int .i64)).toArray t frozen|o=>o).modify 0 fun|.cells _ t frozen=>.cells #[.iface 175 (.agg #[.pointer (some ⟨6,65,none⟩)])] t frozen|o=>o }) #[.agg #[.slice none 0 0,.int .i64 0,.int .i64 0,.int .i64 0,.slice none 0 0,.slice none 0 0,.slice none 0 0]] rfl (by kernel_rfl) (by kernel_rfl) (by kernel_rfl)
   (OpenSpec.preRow_of_cond 8 hx (by kernel_rfl) (fun k hk=>by cases hk) (by kernel_rfl) (laid_met os))) ?_
 intro W base args ds gs before hval hW _ _ _ hL _ _
 exact contract H enc W base args ds gs before hval hW hL
theorem k00:Rows.fnExactFrameLessRow.wf (OpenSpec.ofChange (OpenSpec.ofChange Rows.fnExactFrameLessSpec).bare)=true:=by kernel_rfl
theorem k01:laidOutB Tryz.prog=true:=by kernel_rfl
theorem k02:mapsRowed Tryz.prog=true:=by kernel_rfl
theorem k03:Tryz.f4.params.all (Tryz.prog.readableRec ·)=true:=by kernel_rfl
theorem k04:namedTie Tryz.prog Rows.fnExactFrameLessRow.named (OpenSpec.ofChange Rows.fnExactFrameLessSpec).bare.vars=true:=by kernel_rfl
theorem k05:(Rows.fnExactFrameLessRow.stops==[])=true:=by kernel_rfl
theorem k06:(Tryz.prog.stops==[])=true:=by kernel_rfl
theorem k07:(Rows.fnExactFrameLessRow.knobs==[])=true:=by kernel_rfl
theorem k08:(Tryz.prog.stopKnobs==[])=true:=by kernel_rfl
theorem k09:(Rows.fnExactFrameLessRow.inPlace==Tryz.prog.inPlace 4)=true:=by kernel_rfl
theorem k10:(Rows.fnExactFrameLessRow.unfollowed==Tryz.prog.unfollowed 4)=true:=by kernel_rfl
theorem k11:(Rows.fnExactFrameLessRow.recurses==Tryz.prog.recurses 4)=true:=by kernel_rfl
theorem k12:(Rows.fnExactFrameLessRow.named==Tryz.prog.varsNamed 4)=true:=by kernel_rfl
theorem k13:(Rows.fnExactFrameLessRow.maps==(Tryz.f4.params.toList++(OpenSpec.ofChange Rows.fnExactFrameLessSpec).bare.plain.varTypes Tryz.prog).any (Tryz.prog.mapsRec ·))=true:=by kernel_rfl
theorem k14:(Rows.fnExactFrameLessRow.ifaces==(Tryz.f4.params.toList++(OpenSpec.ofChange Rows.fnExactFrameLessSpec).bare.plain.varTypes Tryz.prog).any (Tryz.prog.ifacesRec ·))=true:=by kernel_rfl
theorem k15:(Rows.fnExactFrameLessRow.mapsOut==Tryz.prog.mapsAmong Tryz.f4.resultTypes.toList)=true:=by kernel_rfl
theorem k16:(Rows.fnExactFrameLessRow.loops==(Tryz.f4.params.toList++(OpenSpec.ofChange Rows.fnExactFrameLessSpec).bare.plain.varTypes Tryz.prog).any (Tryz.prog.loopsFrom ·))=true:=by kernel_rfl
theorem k17:(Rows.fnExactFrameLessRow.wideKeys==(Tryz.f4.params.toList++(OpenSpec.ofChange Rows.fnExactFrameLessSpec).bare.plain.varTypes Tryz.prog++Tryz.f4.resultTypes.toList).any (Tryz.prog.wideKeysFrom ·))=true:=by kernel_rfl
theorem k18:(OpenSpec.ofChange Rows.fnExactFrameLessSpec).bare.vars.all (Tryz.prog.varReadable ·)=true:=by kernel_rfl
theorem k19:Tryz.f4.resultTypes.all (fun t=>Tryz.prog.readableRec t && decide (t<Tryz.prog.types.size))=true:=by kernel_rfl
theorem k20:(Rows.fnExactFrameLessRow.ifacesOut==Tryz.f4.resultTypes.toList.any (Tryz.prog.ifacesRec ·))=true:=by kernel_rfl
theorem k21:(Rows.fnExactFrameLessRow.loopsOut==Tryz.f4.resultTypes.toList.any (Tryz.prog.loopsFrom ·))=true:=by kernel_rfl
theorem k22:(Rows.fnExactFrameLessRow.plainKeys==Tryz.prog.plainKeys)=true:=by kernel_rfl
theorem k23:Rows.fnExactFrameLessRow.shortTexts.isNone=true:=by kernel_rfl
theorem k24:Tryz.prog.stopsHeard=true:=by kernel_rfl
theorem k25:Tryz.prog.mayEnter=true:=by kernel_rfl
theorem k26:(Rows.fnExactFrameLessRow.lifted==Tryz.prog.liftsFinal)=true:=by kernel_rfl
theorem k27:(Tryz.prog.make==some Rows.fnExactFrameLessRow.make)=true:=by kernel_rfl
theorem k28:(Rows.fnExactFrameLessRow.kinds==(if Rows.fnExactFrameLessRow.domain.isEmpty then [] else Tryz.f4.params.toList.map fun t=>match Tryz.prog.underlying t with|some (.int k)=>some k|_=>none))=true:=by kernel_rfl
theorem k29:(Rows.fnExactFrameLessRow.pinned==Rows.fnExactFrameLessRow.pinnedBy)=true:=by kernel_rfl
theorem k30:(Rows.fnExactFrameLessRow.veiled==(Tryz.f4.params.toList++(OpenSpec.ofChange Rows.fnExactFrameLessSpec).bare.plain.varTypes Tryz.prog++Tryz.f4.resultTypes.toList).any (Tryz.prog.veiledRec ·))=true:=by kernel_rfl
theorem k31:Rows.fnExactFrameLessRow.veiledFits Tryz.prog Tryz.f4.params.toList (Tryz.f4.params.toList++(OpenSpec.ofChange Rows.fnExactFrameLessSpec).bare.plain.varTypes Tryz.prog++Tryz.f4.resultTypes.toList)=true:=by kernel_rfl
theorem closed:joinedFacts Tryz.prog 4 Tryz.f4 (OpenSpec.ofChange Rows.fnExactFrameLessSpec).bare Rows.fnExactFrameLessRow=true:=
 joined_of k00 k01 k02 k03 k04 k05 k06 k07 k08 k09 k10 k11 k12 k13 k14 k15 k16 k17 k18 k19 k20 k21 k22 k23 k24 k25 k26 k27 k28 k29 k30 k31
theorem said:Rows.FnExactFrameLessSaid:=
 OpenClaim.holds_of_cond 4 Tryz.f4 rfl rfl rfl rfl rfl rfl rfl ⟨rfl,rfl,rfl,rfl,rfl⟩ rfl rfl rfl rfl rfl (by as_aux_lemma=>kernel_rfl) Tryz.func4 closed
  (of_decide_eq_true (by kernel_rfl)) (by unfold Func.isWrapper;first|(rw [if_pos (by decide +kernel)];kernel_rfl)|(rw [if_neg (by decide +kernel)];exact ⟨rfl,rfl⟩))
  (fun os started H enc _ F=>by rw [OpenClaim.pre_eq_preRow];exact lifted os started H enc F)
theorem plain (f:FuncId) (fn:Func) (hf:Tryz.pinned.checked.prog.funcNamed "loop.example/stowage/laws.FnExactFrameLess" = some f) (hfn:Tryz.pinned.checked.prog.funcs[f]? = some fn) :
  true=Tryz.pinned.checked.prog.looks []∧∀ (j:Nat) t,fn.params[j]? = some t→Tryz.pinned.checked.prog.wantsStandIn t=false:=by
 obtain rfl:f=4:=Option.some.inj ((show Tryz.prog.funcNamed "loop.example/stowage/laws.FnExactFrameLess" = some 4 by kernel_rfl).symm.trans hf) |>.symm
 obtain rfl:fn=Tryz.f4:=(Option.some.inj (Tryz.func4.symm.trans hfn)).symm
 refine ⟨by kernel_rfl,fun j t ht=>?_⟩
 rw [Tryz.params4] at ht
 obtain rfl:t=27:=by simpa using Array.mem_of_getElem? ht
 exact (show Tryz.prog.wantsStandIn 27=false by kernel_rfl)
theorem card:Rows.FnExactFrameLessCardSaid:=
 Claim7.holds_tied_plain_at .later [] _ _ _ _ said (fun _ h=>by cases h) (by kernel_rfl) (fun _ h=>by cases h) fnExactFrameLess_row_tie rfl ⟨rfl,rfl⟩ (by kernel_rfl) rfl plain (by kernel_rfl)
end Go.Proofs.YtadgoaogkkffmaaGreatDoor.fnExactFrameLess
namespace Go.Proofs.YtadgoaogkkffmaaGreatDoor
theorem fnExactFrameLessHolds:Rows.FnExactFrameLessCardSaid:=fnExactFrameLess.card
end Go.Proofs.YtadgoaogkkffmaaGreatDoor
