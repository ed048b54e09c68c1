/- Proved: the law FnExactPackAdd returns true at every class and entry and leaves its arguments as they were, where the table of ops and the variable by which errors.As knows an error read as the program's text lays them (the card ties them): PackAdd of the program answers as the specification's, class and place, at every argument, writes into none, and what it answers is its own (it stands as it was when all that the argument reaches is turned, and what of it is turned holds still). No other condition. -/
import Derived.Test.YtecbcdfkedocbaaGreatDoorClosed
import Derived.Test.YtecbcdfkedocbaaGreatDoorCards
import Derived.Test.YtecbcdfkedocbaaGreatDoorTie
import Derived.Test.YtecbcdfkedocbaaGreatDoorAddWalk
import Derived.Deep.Slices
import Derived.Deep.Strs
import Derived.Lib.SmallJoins
import Derived.WalkKit
import Derived.ProofKit
import Derived.OpenShut
import Derived.ShutString
import Derived.OpenVars
import Derived.ChangeOld
import Derived.Deep.DeepHandedRow
import Derived.Lib.LaidTab
import Derived.LaidHandle
import Derived.LaidLaws
namespace Go.Proofs.YtecbcdfkedocbaaGreatDoor.fnExactPackAdd
open Go.ChangeShapes Go.WideShapes Go.ChangeAt Go.RowKit
open Go.ChangeMaps (open_string shut_string)
open Mx
set_option linter.unusedVariables false
set_option maxHeartbeats 2000000
set_option maxRecDepth 20000
theorem own:ownKnob Tryz.prog.godebug=none:=by kernel_rfl
theorem laidOut:laidOutB Tryz.prog=true:=by kernel_rfl
theorem gTab:Tryz.prog.globalNamed "loop.example/stowage/impl.opBehind" = some 1:=by kernel_rfl
theorem gTabType:(Tryz.prog.globals[1]?).map (·.type)=some 266:=by kernel_rfl
theorem cellsT:Tryz.prog.cellsOf 266=35:=by kernel_rfl
theorem cellsI:Tryz.prog.cellsOf 3=1:=by kernel_rfl
theorem rowed:varsRowed Tryz.prog ["loop.example/stowage/impl.opBehind"]=true:=by kernel_rfl
theorem et:Tryz.prog.globalNamed "errors.errorType" = some 0:=by kernel_rfl
theorem rt:(Tryz.prog.cutTypes.find? (·.1 == "internal/reflectlite.rtype")).map (·.2)=some 182:=by kernel_rfl
theorem oneRow:((List.range 328).filter fun t=>Tryz.prog.rowNamed t [101,114,114,111,114])=[87]:=by kernel_rfl
theorem tsize:Tryz.prog.types.size=328:=by kernel_rfl
theorem parts {W:World} (h:laidMetH Tryz.prog Rows.fnExactPackAddRow.laid W):laidMet Tryz.prog [("loop.example/stowage/impl.opBehind",Rows.laid_loop_example_stowage_impl_opBehind)] W∧handlesMet Tryz.prog [("errors.errorType",Rows.laid_errors_errorType)] W:=h
theorem table {W:World} (h:laidMetH Tryz.prog Rows.fnExactPackAddRow.laid W):Lib.TabIs Tryz.prog W "loop.example/stowage/impl.opBehind" .i64 tab:=
 Lib.tabIs_of_head (rest:=[]) gTab gTabType Tryz.underlying266 Tryz.underlying3 cellsI cellsT (parts h).1
theorem tabOf {W:World} (h:laidMetH Tryz.prog Rows.fnExactPackAddRow.laid W):Tab W:=by
 have hc:∀ k,k<35→W.cell? ⟨1,k,none⟩=some (.int .i64 (tab.getD k 0)):=fun k hk=>(table h).cell gTab k (by exact hk)
 exact ⟨World.block_lt_of_cell? W _ (hc 0 (by omega)),hc⟩
theorem errOf {W:World} (h:laidMetH Tryz.prog Rows.fnExactPackAddRow.laid W):ErrW W:=by
 obtain ⟨name,u,ty,e1,e2,e3,e4,e5⟩:=(parts h).2 _ (List.mem_singleton.2 rfl)
 have en:name=[101,114,114,111,114]:=(Option.some.inj e1).symm
 subst en
 obtain rfl:=Option.some.inj (rt.symm.trans e2)
 have hm:ty∈(List.range 328).filter fun t=>Tryz.prog.rowNamed t [101,114,114,111,114]:=List.mem_filter.2 ⟨List.mem_range.2 (by rw [← tsize];exact e3),e4⟩
 rw [oneRow] at hm
 obtain rfl:=List.mem_singleton.1 hm
 have hh:typeHandle Tryz.prog 87=.pointer (some ⟨3,87,none⟩):=by kernel_rfl
 rw [hh] at e5
 unfold ErrW
 simpa using World.var?_cell et e5 0
theorem list4 {cs:List Value} {a0 a1 a2 a3:Value} (hl:cs.length=4) (g0:cs[0]? = some a0) (g1:cs[1]? = some a1) (g2:cs[2]? = some a2) (g3:cs[3]? = some a3):cs=[a0,a1,a2,a3]:=by
 match cs,hl with
 | [q0,q1,q2,q3],_=>
  simp at g0 g1 g2 g3
  rw [g0,g1,g2,g3]
theorem entry_of {H:Type} {enc:TypeId × Value→H} {W:World} {fuel:Nat} {cs:List Value} {x:DataW H × List MemPlace}
  (h:DataW.trod enc Tryz.prog W 0 (fun _=>true) true fuel 29 cs=some x) :
  ∃ t:C4,cs=[.int .i64 t.kind,.string t.text,.int .i64 t.a,.int .i64 t.b]∧t.text.size≤maxLen:=by
 obtain ⟨xs,n2,_,_,hlen,hl,hf⟩:=DataW.trod_struct Tryz.underlying29 h
 simp at hl
 rw [show Tryz.prog.cellsOf 29=4 by kernel_rfl] at hlen
 obtain ⟨p0,g0⟩:=at_int (y:=none) (by omega) (hf 0 _ rfl)
 obtain ⟨p1,g1,z1⟩:=at_str (by omega) (hf 1 _ rfl)
 obtain ⟨p2,g2⟩:=at_int (y:=none) (by omega) (hf 2 _ rfl)
 obtain ⟨p3,g3⟩:=at_int (y:=none) (by omega) (hf 3 _ rfl)
 exact ⟨⟨p0,p1,p2,p3⟩,list4 hlen g0 g1 g2 g3,z1⟩
theorem contract (H:Type) (enc:TypeId × Value→H) (W:World) (base:Nat) (args:Array Value) (ds gs:List (DataW H)) (before:List MemPlace)
  (hval:∀ (j:Nat) t v,Tryz.f3.params[j]? = some t→args[j]? = some v→Value.okWide Tryz.prog W .any base t v)
  (hW:DataW.Whole enc Tryz.prog Tryz.f3.params.toList Rows.fnExactPackAddSpec.vars false W args.toList ds gs before) (hL:laidMetH Tryz.prog Rows.fnExactPackAddRow.laid W) :
  Calls Tryz.prog 3 args W fun e W'=>∃ v,e=.returned v∧Rows.fnExactPackAddSpec.post enc Tryz.prog Tryz.f3 false true false false W args v W':=by
 have hW':=hW
 obtain ⟨p,q,hA0,hV,rfl,hfz,hnd⟩:=hW
 have hA:DataW.TrodAll enc Tryz.prog W 0 (fun _=>true) true Tryz.f3.params.toList args.toList ds p:=hA0
 rw [Tryz.params3] at hA hval
 obtain ⟨v0,vs0,d0,ds0,p0,q0,hargs,rfl,rfl,h0,r0⟩:=trodAll_cons hA
 obtain ⟨v1,vs1,d1,ds1,p1,q1,hargs1,rfl,rfl,h1,r1⟩:=trodAll_cons r0
 obtain ⟨rfl,rfl,rfl⟩:=trodAll_nil r1
 obtain rfl:args=#[v0,v1]:=by cases args;simp_all
 obtain ⟨ct,rfl,hct⟩:=okWide_struct Tryz.underlying29 (hval 1 29 v1 rfl rfl)
 have k1:=h1
 have lt1:∀ x∈p1,x.block<W.heap.size:=by obtain ⟨m,hm⟩:=k1;exact DataW.trod_lt m _ _ _ hm
 obtain ⟨t,hl1,ht⟩:∃ t:C4,ct.toList=[.int .i64 t.kind,.string t.text,.int .i64 t.a,.int .i64 t.b]∧t.text.size≤maxLen:=by
  obtain ⟨fuel,hf⟩:=h1
  exact entry_of (by simpa [Value.cells] using hf)
 obtain rfl:ct=#[.int .i64 t.kind,.string t.text,.int .i64 t.a,.int .i64 t.b]:=by cases ct;simp_all
 obtain ⟨cs,rfl,hcs⟩:=okWide_struct Tryz.underlying27 (hval 0 27 v0 rfl rfl)
 have k0:=h0
 have lt0:∀ x∈p0,x.block<W.heap.size:=by obtain ⟨m,hm⟩:=k0;exact DataW.trod_lt m _ _ _ hm
 obtain ⟨c,ap,lp,cp,ai,li,ci,af,lf,cf,am,lm,cm,hl,hC⟩:∃ (c:MClass) (ap:Option Addr) (lp cp:Nat) (ai:Option Addr) (li ci:Nat) (af:Option Addr) (lf cf:Nat) (am:Option Addr) (lm cm:Nat),cs.toList=[.slice ap lp cp,.int .i64 c.flags,.int .i64 c.name,.int .i64 c.super,.slice ai li ci,.slice af lf cf,.slice am lm cm]∧ArgCl W ap lp ai li af lf am lm c:=by
  obtain ⟨fuel,hf⟩:=h0
  exact class_of (by simpa [Value.cells] using hf)
 obtain rfl:cs=#[.slice ap lp cp,.int .i64 c.flags,.int .i64 c.name,.int .i64 c.super,.slice ai li ci,.slice af lf cf,.slice am lm cm]:=by cases cs;simp_all
 have hV2:DataW.TrodVars enc Tryz.prog W (fun _=>true) ["loop.example/stowage/impl.opBehind"] gs q:=hV
 obtain ⟨g1,hg1⟩:∃ g1,gs=[g1]:=by
  obtain ⟨_,_,_,_,d,_,h,_⟩:=trodVars_one hV2
  exact ⟨d,h⟩
 subst hg1
 clear hA0
 refine (walk c t ap lp cp ai li ci af lf cf am lm cm W (tabOf hL) (errOf hL) hC ht).mono fun e W' ⟨he,bel⟩=>?_
 subst he
 exact ⟨_,rfl,_,_,_,[],_,q,hW',trodAll_mk1 (shut_bool Tryz.underlying4 _),(trodAll_cons_mk (Below.trod laidOut (by kernel_rfl) (of_decide_eq_true (by kernel_rfl)) k0 bel lt0) (trodAll_cons_mk (Below.trod laidOut (by kernel_rfl) (of_decide_eq_true (by kernel_rfl)) k1 bel lt1) trodAll_mk0)),Below.trodVars laidOut bel rowed hV2,bel.frame _,fun h=>by cases h⟩
theorem laid_met (os:Os):laidMetH Tryz.prog Rows.fnExactPackAddRow.laid (({ World.holding Tryz.prog os ⟨#[],#[],[]⟩ with heap:=((World.holding Tryz.prog os ⟨#[],#[],[]⟩).heap.modify 1 fun|.cells _ t frozen=>.cells (tab.map (Value.int .i64)).toArray t frozen|o=>o).modify 0 fun|.cells _ t frozen=>.cells #[.iface 182 (.agg #[.pointer (some ⟨3,87,none⟩)])] t frozen|o=>o }:World).forCall (fun _ _=>0) ⟨#[],#[.agg #[.slice none 0 0,.int .i64 0,.int .i64 0,.int .i64 0,.slice none 0 0,.slice none 0 0,.slice none 0 0],.agg #[.int .i64 0,.string ⟨#[]⟩,.int .i64 0,.int .i64 0]],[]⟩).memory:=
 laidMetH_of_parts (laidMet_of_run' 8 (by kernel_rfl) (by kernel_rfl)) (by kernel_rfl)
theorem reads (os:Os) {H:Type} (enc:TypeId × Value→H):∃ places,DataW.whole enc Tryz.prog (({ World.holding Tryz.prog os ⟨#[],#[],[]⟩ with heap:=((World.holding Tryz.prog os ⟨#[],#[],[]⟩).heap.modify 1 fun|.cells _ t frozen=>.cells (tab.map (Value.int .i64)).toArray t frozen|o=>o).modify 0 fun|.cells _ t frozen=>.cells #[.iface 182 (.agg #[.pointer (some ⟨3,87,none⟩)])] t frozen|o=>o }:World).forCall (fun _ _=>0) ⟨#[],#[.agg #[.slice none 0 0,.int .i64 0,.int .i64 0,.int .i64 0,.slice none 0 0,.slice none 0 0,.slice none 0 0],.agg #[.int .i64 0,.string ⟨#[]⟩,.int .i64 0,.int .i64 0]],[]⟩).memory Tryz.f3.params.toList Rows.fnExactPackAddSpec.vars false #[Value.agg #[.slice none 0 0,.int .i64 0,.int .i64 0,.int .i64 0,.slice none 0 0,.slice none 0 0,.slice none 0 0],Value.agg #[.int .i64 0,.string ⟨#[]⟩,.int .i64 0,.int .i64 0]].toList 8=some ([.agg [.nil,.lit (.int .i64 0),.lit (.int .i64 0),.lit (.int .i64 0),.nil,.nil,.nil],.agg [.lit (.int .i64 0),.lit (.string []),.lit (.int .i64 0),.lit (.int .i64 0)]],[Rows.laid_loop_example_stowage_impl_opBehind],places):=
 ⟨MemPlace.row ⟨1,0,none⟩ 35,by kernel_rfl⟩
set_option maxRecDepth 100000 in
theorem lifted (os:Os) (started:os.Started) (H:Type) (enc:TypeId × Value→H) (F:Stop.Interp) :
  ReturnsInHanded {} Tryz.checked os 3 .any ((OpenSpec.ofChange Rows.fnExactPackAddSpec).preRow enc Tryz.prog Tryz.f3 Rows.fnExactPackAddRow.domain false Rows.fnExactPackAddRow.laid) (((OpenSpec.ofChange Rows.fnExactPackAddSpec).at F).post enc Tryz.prog Tryz.f3 false true false false):=by
 obtain ⟨places,hx⟩:=reads os enc
 refine returnsInHanded_of_row (C:=Tryz.checked) (s:=OpenSpec.ofChange Rows.fnExactPackAddSpec) own started (by kernel_rfl) Tryz.func3
  (witness_row_at (enc:=enc) (C:=Tryz.checked) false ({ World.holding Tryz.prog os ⟨#[],#[],[]⟩ with heap:=((World.holding Tryz.prog os ⟨#[],#[],[]⟩).heap.modify 1 fun|.cells _ t frozen=>.cells (tab.map (Value.int .i64)).toArray t frozen|o=>o).modify 0 fun|.cells _ t frozen=>.cells #[.iface 182 (.agg #[.pointer (some ⟨3,87,none⟩)])] t frozen|o=>o }) #[.agg #[.slice none 0 0,.int .i64 0,.int .i64 0,.int .i64 0,.slice none 0 0,.slice none 0 0,.slice none 0 0],.agg #[.int .i64 0,.string ⟨#[]⟩,.int .i64 0,.int .i64 0]] rfl (by kernel_rfl) (by kernel_rfl) (by kernel_rfl)
   (OpenSpec.preRow_of_cond 8 hx (by kernel_rfl) (fun k hk=>by cases hk) (by kernel_rfl) (laid_met os))) ?_
 intro W base args ds gs before hval hW _ _ _ hL _ _
 exact contract H enc W base args ds gs before hval hW hL
theorem k00:Rows.fnExactPackAddRow.wf (OpenSpec.ofChange (OpenSpec.ofChange Rows.fnExactPackAddSpec).bare)=true:=by kernel_rfl
theorem k01:laidOutB Tryz.prog=true:=by kernel_rfl
theorem k02:mapsRowed Tryz.prog=true:=by kernel_rfl
theorem k03:Tryz.f3.params.all (Tryz.prog.readableRec ·)=true:=by kernel_rfl
theorem k04:namedTie Tryz.prog Rows.fnExactPackAddRow.named (OpenSpec.ofChange Rows.fnExactPackAddSpec).bare.vars=true:=by kernel_rfl
theorem k05:(Rows.fnExactPackAddRow.stops==[])=true:=by kernel_rfl
theorem k06:(Tryz.prog.stops==[])=true:=by kernel_rfl
theorem k07:(Rows.fnExactPackAddRow.knobs==[])=true:=by kernel_rfl
theorem k08:(Tryz.prog.stopKnobs==[])=true:=by kernel_rfl
theorem k09:(Rows.fnExactPackAddRow.inPlace==Tryz.prog.inPlace 3)=true:=by kernel_rfl
theorem k10:(Rows.fnExactPackAddRow.unfollowed==Tryz.prog.unfollowed 3)=true:=by kernel_rfl
theorem k11:(Rows.fnExactPackAddRow.recurses==Tryz.prog.recurses 3)=true:=by kernel_rfl
theorem k12:(Rows.fnExactPackAddRow.named==Tryz.prog.varsNamed 3)=true:=by kernel_rfl
theorem k13:(Rows.fnExactPackAddRow.maps==(Tryz.f3.params.toList++(OpenSpec.ofChange Rows.fnExactPackAddSpec).bare.plain.varTypes Tryz.prog).any (Tryz.prog.mapsRec ·))=true:=by kernel_rfl
theorem k14:(Rows.fnExactPackAddRow.ifaces==(Tryz.f3.params.toList++(OpenSpec.ofChange Rows.fnExactPackAddSpec).bare.plain.varTypes Tryz.prog).any (Tryz.prog.ifacesRec ·))=true:=by kernel_rfl
theorem k15:(Rows.fnExactPackAddRow.mapsOut==Tryz.prog.mapsAmong Tryz.f3.resultTypes.toList)=true:=by kernel_rfl
theorem k16:(Rows.fnExactPackAddRow.loops==(Tryz.f3.params.toList++(OpenSpec.ofChange Rows.fnExactPackAddSpec).bare.plain.varTypes Tryz.prog).any (Tryz.prog.loopsFrom ·))=true:=by kernel_rfl
theorem k17:(Rows.fnExactPackAddRow.wideKeys==(Tryz.f3.params.toList++(OpenSpec.ofChange Rows.fnExactPackAddSpec).bare.plain.varTypes Tryz.prog++Tryz.f3.resultTypes.toList).any (Tryz.prog.wideKeysFrom ·))=true:=by kernel_rfl
theorem k18:(OpenSpec.ofChange Rows.fnExactPackAddSpec).bare.vars.all (Tryz.prog.varReadable ·)=true:=by kernel_rfl
theorem k19:Tryz.f3.resultTypes.all (fun t=>Tryz.prog.readableRec t && decide (t<Tryz.prog.types.size))=true:=by kernel_rfl
theorem k20:(Rows.fnExactPackAddRow.ifacesOut==Tryz.f3.resultTypes.toList.any (Tryz.prog.ifacesRec ·))=true:=by kernel_rfl
theorem k21:(Rows.fnExactPackAddRow.loopsOut==Tryz.f3.resultTypes.toList.any (Tryz.prog.loopsFrom ·))=true:=by kernel_rfl
theorem k22:(Rows.fnExactPackAddRow.plainKeys==Tryz.prog.plainKeys)=true:=by kernel_rfl
theorem k23:Rows.fnExactPackAddRow.shortTexts.isNone=true:=by kernel_rfl
theorem k24:Tryz.prog.stopsHeard=true:=by kernel_rfl
theorem k25:Tryz.prog.mayEnter=true:=by kernel_rfl
theorem k26:(Rows.fnExactPackAddRow.lifted==Tryz.prog.liftsFinal)=true:=by kernel_rfl
theorem k27:(Tryz.prog.make==some Rows.fnExactPackAddRow.make)=true:=by kernel_rfl
theorem k28:(Rows.fnExactPackAddRow.kinds==(if Rows.fnExactPackAddRow.domain.isEmpty then [] else Tryz.f3.params.toList.map fun t=>match Tryz.prog.underlying t with|some (.int k)=>some k|_=>none))=true:=by kernel_rfl
theorem k29:(Rows.fnExactPackAddRow.pinned==Rows.fnExactPackAddRow.pinnedBy)=true:=by kernel_rfl
theorem k30:(Rows.fnExactPackAddRow.veiled==(Tryz.f3.params.toList++(OpenSpec.ofChange Rows.fnExactPackAddSpec).bare.plain.varTypes Tryz.prog++Tryz.f3.resultTypes.toList).any (Tryz.prog.veiledRec ·))=true:=by kernel_rfl
theorem k31:Rows.fnExactPackAddRow.veiledFits Tryz.prog Tryz.f3.params.toList (Tryz.f3.params.toList++(OpenSpec.ofChange Rows.fnExactPackAddSpec).bare.plain.varTypes Tryz.prog++Tryz.f3.resultTypes.toList)=true:=by kernel_rfl
theorem closed:joinedFacts Tryz.prog 3 Tryz.f3 (OpenSpec.ofChange Rows.fnExactPackAddSpec).bare Rows.fnExactPackAddRow=true:=
 joined_of k00 k01 k02 k03 k04 k05 k06 k07 k08 k09 k10 k11 k12 k13 k14 k15 k16 k17 k18 k19 k20 k21 k22 k23 k24 k25 k26 k27 k28 k29 k30 k31
theorem said:Rows.FnExactPackAddSaid:=
 OpenClaim.holds_of_cond 3 Tryz.f3 rfl rfl rfl rfl rfl rfl rfl ⟨rfl,rfl,rfl,rfl,rfl⟩ rfl rfl rfl rfl rfl (by as_aux_lemma=>kernel_rfl) Tryz.func3 closed
  (of_decide_eq_true (by kernel_rfl)) (by unfold Func.isWrapper;first|(rw [if_pos (by decide +kernel)];kernel_rfl)|(rw [if_neg (by decide +kernel)];exact ⟨rfl,rfl⟩))
  (fun os started H enc _ F=>by rw [OpenClaim.pre_eq_preRow];exact lifted os started H enc F)
theorem plain (f:FuncId) (fn:Func) (hf:Tryz.pinned.checked.prog.funcNamed "loop.example/stowage/laws.FnExactPackAdd" = some f) (hfn:Tryz.pinned.checked.prog.funcs[f]? = some fn) :
  true=Tryz.pinned.checked.prog.looks []∧∀ (j:Nat) t,fn.params[j]? = some t→Tryz.pinned.checked.prog.wantsStandIn t=false:=by
 obtain rfl:f=3:=Option.some.inj ((show Tryz.prog.funcNamed "loop.example/stowage/laws.FnExactPackAdd" = some 3 by kernel_rfl).symm.trans hf) |>.symm
 obtain rfl:fn=Tryz.f3:=(Option.some.inj (Tryz.func3.symm.trans hfn)).symm
 refine ⟨by kernel_rfl,fun j t ht=>?_⟩
 rw [Tryz.params3] at ht
 have h2:t=27∨t=29:=by simpa using Array.mem_of_getElem? ht
 rcases h2 with rfl|rfl
 ·exact (show Tryz.prog.wantsStandIn 27=false by kernel_rfl)
 ·exact (show Tryz.prog.wantsStandIn 29=false by kernel_rfl)
theorem card:Rows.FnExactPackAddCardSaid:=
 Claim7.holds_tied_plain_at .later [] _ _ _ _ said (fun _ h=>by cases h) (by kernel_rfl) (fun _ h=>by cases h) fnExactPackAdd_row_tie rfl ⟨rfl,rfl⟩ (by kernel_rfl) rfl plain (by kernel_rfl)
end Go.Proofs.YtecbcdfkedocbaaGreatDoor.fnExactPackAdd
namespace Go.Proofs.YtecbcdfkedocbaaGreatDoor
theorem fnExactPackAddHolds:Rows.FnExactPackAddCardSaid:=fnExactPackAdd.card
end Go.Proofs.YtecbcdfkedocbaaGreatDoor
