/- Proved: the law FnExactOpsGet returns true at every text and leaves its argument as it was, where the table of ops reads as the program's text lays it (the card ties it): OpsGet of the program answers as the specification's, at every argument; what it answers owns its memory, behind another call too. No other condition. -/
import Derived.Test.YtnimkkchpmlddaaDoorCards
import Derived.Test.YtnimkkchpmlddaaDoorTie
import Derived.Test.YtnimkkchpmlddaaDoorOpsEq
import Derived.WalkKit
import Derived.ProofKit
import Derived.OpenShut
import Derived.OpenVars
import Derived.ShutString
import Derived.ChangeOld
import Derived.Deep.DeepHandedRow
import Derived.Lib.LaidTab
namespace Go.Proofs.YtnimkkchpmlddaaDoor.fnExactOpsGet
open Go.ChangeShapes Go.WideShapes Go.ChangeAt Go.RowKit
open Go.ChangeMaps (open_string shut_string)
open Mx
set_option linter.unusedVariables false
set_option maxHeartbeats 400000

theorem own : ownKnob Tryd.prog.godebug = none := by kernel_rfl
theorem laidOut : laidOutB Tryd.prog = true := by kernel_rfl
theorem gTab : Tryd.prog.globalNamed "loop.example/stowage/impl.opBehind" = some 0 := by kernel_rfl
theorem gTabType : (Tryd.prog.globals[0]?).map (·.type) = some 34 := by kernel_rfl
theorem cellsT : Tryd.prog.cellsOf 34 = 35 := by kernel_rfl
theorem cellsI : Tryd.prog.cellsOf 3 = 1 := by kernel_rfl
theorem rowed : varsRowed Tryd.prog ["loop.example/stowage/impl.opBehind"] = true := by kernel_rfl

theorem table {W : World} (h : laidMetH Tryd.prog Rows.fnExactOpsGetRow.laid W) : Lib.TabIs Tryd.prog W "loop.example/stowage/impl.opBehind" .i64 tab :=
  Lib.tabIs_of_head (rest := []) gTab gTabType Tryd.underlying34 Tryd.underlying3 cellsI cellsT h
theorem tabOf {W : World} (h : laidMetH Tryd.prog Rows.fnExactOpsGetRow.laid W) : Tab W := by
  have hc : ∀ k, k < 35 → W.cell? ⟨0, k, none⟩ = some (.int .i64 (tab.getD k 0)) := fun k hk => (table h).cell gTab k (by exact hk)
  exact ⟨World.block_lt_of_cell? W _ (hc 0 (by omega)), hc⟩

theorem walk (a0 : ByteArray) (w0 : a0.size ≤ maxLen) (w : World) (hT : Tab w) :
    Calls Tryd.prog 3 #[.string a0] w fun e w' => e = .returned (.bool true) ∧ Below w.heap.size w w' := by
  by_cases h : 1048576 < a0.size
  · unfold maxLen at w0
    go_enter Tryd.func3, Tryd.ntmps3
    go_wp2
    go_ret
    exact ⟨rfl, Below.refl _ _⟩
  · have hm := w0
    unfold maxLen at w0
    have hL := oList_len a0
    have HTab : Hid (Tab w) := hT
    have hB0 := hT.1
    have hS : ∀ w, Calls Tryd.prog 5 #[.string a0] w fun e w' => ∃ v, e = .returned (.tuple #[v, .bool (oGood a0)]) ∧ w'.ownsRow w.heap.size 37 3 v (oList a0).length (cellsL (oList a0)) ∧ Below w.heap.size w w' := fun w => specOpsGet_any a0 w hm
    have hI : ∀ w, Tab w → Calls Tryd.prog 6 #[.string a0] w fun e w' => ∃ v, e = .returned (.tuple #[v, .bool (oGood a0)]) ∧ w'.ownsRow w.heap.size 37 3 v (oList a0).length (cellsL (oList a0)) ∧ Below w.heap.size w w' := fun w hT => OpsGet_any a0 w hm hT
    generalize oList a0 = ts at *
    generalize oGood a0 = ok at *
    clear hT hm
    go_enter Tryd.func3, Tryd.ntmps3
    go_wp2_with (go_at_call 5; refine (hS _).mono ?_; rintro e w1 ⟨v1, rfl, ho1, hb1⟩)
    have t1 := HTab.out.keep hb1 hB0
    refine (hI _ t1).mono ?_
    rintro e w2 ⟨v2, rfl, ho2, hb2⟩
    have t2 := t1.keep hb2 t1.1
    go_wp2_with fail
    refine (eqInsS_same v2 v1 ts _ _ w2 (by omega) ho2 (own_below ho1 hb2)).mono ?_
    rintro e w3 ⟨rfl, hb3⟩
    have t3 := t2.keep hb3 t2.1
    go_wp2_with fail
    have hb23 : Below w1.heap.size w1 w3 := hb2.trans (hb3.mono hb2.size)
    refine (markInsS_any v2 1 ts w1.heap.size w3 (by omega) (by omega) (own_below ho2 hb3)).mono ?_
    rintro e w4 ⟨rfl, ho4, hb4⟩
    have t4 := t3.keep hb4 t1.1
    go_wp2_with fail
    refine (heldInsS_any v2 1 ts.length w1.heap.size w4 (by omega) (by omega) ho4).mono ?_
    rintro e w5 ⟨rfl, hw⟩
    replace hw := hw.symm
    subst hw
    go_wp2_with fail
    refine (hI _ t4).mono ?_
    rintro e w6 ⟨v3, rfl, ho6, hb6⟩
    go_wp2_with fail
    have hx1 : w6.ownsRow w.heap.size 37 3 v1 ts.length (cellsL ts) := own_below (own_belowB ho1 (hb23.trans hb4) (fun k hk => (ho1.lt k hk).2)) hb6
    refine (eqInsS_same v3 v1 ts _ _ w6 (by omega) ho6 hx1).mono ?_
    rintro e w7 ⟨rfl, hb7⟩
    go_wp2_with fail
    refine (heldInsS_any v2 1 ts.length w1.heap.size w7 (by omega) (by omega) (own_below (own_below ho4 hb6) hb7)).mono ?_
    rintro e w8 ⟨rfl, hw⟩
    replace hw := hw.symm
    subst hw
    have s1 := hb1.size
    have s3 := hb23.size
    have s4 := hb4.size
    have s6 := hb6.size
    have HB : Hid (Below w.heap.size w w7) :=
      (hb1.trans ((hb23.trans hb4).mono s1)).trans ((hb6.mono (by omega)).trans (hb7.mono (by omega)))
    clear s1 s3 s4 s6 hb1 hb2 hb3 hb4 hb6 hb7 hb23 hx1 ho1 ho2 ho4 ho6 t1 t2 t3 t4 HTab
    go_wp2
    go_ret
    exact ⟨rfl, HB.out⟩

theorem contract (H : Type) (enc : TypeId × Value → H) (W : World) (base : Nat) (args : Array Value) (ds gs : List (DataW H)) (before : List MemPlace)
    (hval : ∀ (j : Nat) t v, Tryd.f3.params[j]? = some t → args[j]? = some v → Value.okWide Tryd.prog W .any base t v)
    (hW : DataW.Whole enc Tryd.prog Tryd.f3.params.toList Rows.fnExactOpsGetSpec.vars false W args.toList ds gs before) (hL : laidMetH Tryd.prog Rows.fnExactOpsGetRow.laid W) :
    Calls Tryd.prog 3 args W fun e W' => ∃ v, e = .returned v ∧ Rows.fnExactOpsGetSpec.post enc Tryd.prog Tryd.f3 false true false false W args v W' := by
  have hW' := hW
  obtain ⟨p, q, hA0, hV, rfl, hfz, hnd⟩ := hW
  have hA : DataW.TrodAll enc Tryd.prog W 0 (fun _ => true) true Tryd.f3.params.toList args.toList ds p := hA0
  rw [Tryd.params3] at hA hval
  obtain ⟨v0, vs0, d0, ds0, p0, q0, hargs, rfl, rfl, h0, r0⟩ := trodAll_cons hA
  obtain ⟨rfl, rfl, rfl⟩ := trodAll_nil r0
  obtain rfl : args = #[v0] := by cases args; simp_all
  obtain ⟨a0, rfl, rfl, rfl, w0⟩ := open_string Tryd.underlying9 (hval 0 9 v0 rfl rfl) h0
  have hV2 : DataW.TrodVars enc Tryd.prog W (fun _ => true) ["loop.example/stowage/impl.opBehind"] gs q := hV
  obtain ⟨g1, hg1⟩ : ∃ g1, gs = [g1] := by
    obtain ⟨_, _, _, _, d, _, h, _⟩ := trodVars_one hV2
    exact ⟨d, h⟩
  subst hg1
  clear hA0
  refine (walk a0 w0 W (tabOf hL)).mono fun e W' ⟨he, bel⟩ => ?_
  subst he
  exact ⟨_, rfl, _, _, _, [], _, q, hW', trodAll_mk1 (shut_bool Tryd.underlying4 _), (trodAll_cons_mk (shut_string Tryd.underlying9 w0) trodAll_mk0), Below.trodVars laidOut bel rowed hV2, bel.frame _, fun h => by cases h⟩

/- The world of the witness: the settled one, the table holding what its initialiser lays. -/
theorem laid_met (os : Os) : laidMet Tryd.prog Rows.fnExactOpsGetRow.laid (({ World.holding Tryd.prog os ⟨#[], #[], []⟩ with heap := (World.holding Tryd.prog os ⟨#[], #[], []⟩).heap.modify 0 fun | .cells _ t frozen => .cells (tab.map (Value.int .i64)).toArray t frozen | o => o } : World).forCall (fun _ _ => 0) ⟨#[], #[.string ByteArray.empty], []⟩).memory :=
  laidMet_of_run' 8 (by kernel_rfl) (by kernel_rfl)
theorem reads (os : Os) {H : Type} (enc : TypeId × Value → H) : ∃ places, DataW.whole enc Tryd.prog (({ World.holding Tryd.prog os ⟨#[], #[], []⟩ with heap := (World.holding Tryd.prog os ⟨#[], #[], []⟩).heap.modify 0 fun | .cells _ t frozen => .cells (tab.map (Value.int .i64)).toArray t frozen | o => o } : World).forCall (fun _ _ => 0) ⟨#[], #[.string ByteArray.empty], []⟩).memory Tryd.f3.params.toList Rows.fnExactOpsGetSpec.vars false #[Value.string ByteArray.empty].toList 8 = some ([.lit (.string [])], [Rows.laid_loop_example_stowage_impl_opBehind], places) :=
  ⟨MemPlace.row ⟨0, 0, none⟩ 35, by kernel_rfl⟩

set_option maxRecDepth 100000 in
theorem lifted (os : Os) (started : os.Started) (H : Type) (enc : TypeId × Value → H) (F : Stop.Interp) :
    ReturnsInHanded {} Tryd.checked os 3 .any ((OpenSpec.ofChange Rows.fnExactOpsGetSpec).preRow enc Tryd.prog Tryd.f3 Rows.fnExactOpsGetRow.domain false Rows.fnExactOpsGetRow.laid) (((OpenSpec.ofChange Rows.fnExactOpsGetSpec).at F).post enc Tryd.prog Tryd.f3 false true false false) := by
  obtain ⟨places, hx⟩ := reads os enc
  refine returnsInHanded_of_row (C := Tryd.checked) (s := OpenSpec.ofChange Rows.fnExactOpsGetSpec) own started (by kernel_rfl) Tryd.func3
    (witness_row_at (enc := enc) (C := Tryd.checked) false ({ World.holding Tryd.prog os ⟨#[], #[], []⟩ with heap := (World.holding Tryd.prog os ⟨#[], #[], []⟩).heap.modify 0 fun | .cells _ t frozen => .cells (tab.map (Value.int .i64)).toArray t frozen | o => o }) #[.string ByteArray.empty] rfl (by kernel_rfl) (by kernel_rfl) (by kernel_rfl)
      (OpenSpec.preRow_of_cond 8 hx (by kernel_rfl) (fun k hk => by cases hk) (by kernel_rfl) (laid_met os))) ?_
  intro W base args ds gs before hval hW _ _ _ hL _ _
  exact contract H enc W base args ds gs before hval hW hL

theorem said : Rows.FnExactOpsGetSaid :=
  OpenClaim.holds_of_cond 3 Tryd.f3 rfl rfl rfl rfl rfl rfl rfl ⟨rfl, rfl, rfl, rfl, rfl⟩ rfl rfl rfl rfl rfl (by kernel_rfl) Tryd.func3 (by kernel_rfl)
    (of_decide_eq_true (by kernel_rfl)) (by unfold Func.isWrapper; first | (rw [if_pos (by decide +kernel)]; kernel_rfl) | (rw [if_neg (by decide +kernel)]; exact ⟨rfl, rfl⟩))
    (fun os started H enc _ F => by rw [OpenClaim.pre_eq_preRow]; exact lifted os started H enc F)

theorem plain (f : FuncId) (fn : Func) (hf : Tryd.pinned.checked.prog.funcNamed "loop.example/stowage/laws.FnExactOpsGet" = some f) (hfn : Tryd.pinned.checked.prog.funcs[f]? = some fn) :
    false = Tryd.pinned.checked.prog.looks [] ∧ ∀ (j : Nat) t, fn.params[j]? = some t → Tryd.pinned.checked.prog.wantsStandIn t = false := by
  obtain rfl : f = 3 := Option.some.inj ((show Tryd.prog.funcNamed "loop.example/stowage/laws.FnExactOpsGet" = some 3 by kernel_rfl).symm.trans hf) |>.symm
  obtain rfl : fn = Tryd.f3 := (Option.some.inj (Tryd.func3.symm.trans hfn)).symm
  refine ⟨by kernel_rfl, fun j t ht => ?_⟩
  rw [Tryd.params3] at ht
  obtain rfl : t = 9 := by simpa using Array.mem_of_getElem? ht
  exact (show Tryd.prog.wantsStandIn 9 = false by kernel_rfl)

theorem card : Rows.FnExactOpsGetCardSaid :=
  Claim7.holds_tied_plain_at .later [] _ _ _ _ said (fun _ h => by cases h) (by kernel_rfl) (fun _ h => by cases h) fnExactOpsGet_row_tie rfl ⟨rfl, rfl⟩ (by kernel_rfl) rfl plain (by kernel_rfl)

end Go.Proofs.YtnimkkchpmlddaaDoor.fnExactOpsGet
namespace Go.Proofs.YtnimkkchpmlddaaDoor
theorem fnExactOpsGetHolds : Rows.FnExactOpsGetCardSaid := fnExactOpsGet.card
end Go.Proofs.YtnimkkchpmlddaaDoor
