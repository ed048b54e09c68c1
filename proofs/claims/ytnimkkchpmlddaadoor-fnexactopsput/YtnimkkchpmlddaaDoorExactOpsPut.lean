/- Proved: the law FnExactOpsPut returns true at every list of ops and leaves its argument as it was, where the table of ops reads as the program's text lays it (the card ties it): OpsPut of the program answers as the specification's, at every argument, and writes into none. No other condition. -/
import Derived.Test.YtnimkkchpmlddaaDoorCards
import Derived.Test.YtnimkkchpmlddaaDoorTie
import Derived.Test.YtnimkkchpmlddaaDoorOpsPutSpec
import Derived.Test.YtnimkkchpmlddaaDoorOpsTo
import Derived.Deep.Slices
import Derived.Deep.Strs
import Derived.WalkKit
import Derived.ProofKit
import Derived.OpenShut
import Derived.OpenVars
import Derived.ShutString
import Derived.ChangeOld
import Derived.Deep.DeepHandedRow
import Derived.Lib.LaidTab
namespace Go.Proofs.YtnimkkchpmlddaaDoor.fnExactOpsPut
open Go.ChangeShapes Go.WideShapes Go.ChangeAt Go.RowKit
open Go.ChangeMaps (open_string shut_string)
open Mx
set_option linter.unusedVariables false
set_option maxHeartbeats 400000

theorem own : ownKnob Tryd.prog.godebug = none := by kernel_rfl
theorem laidOut : laidOutB Tryd.prog = true := by kernel_rfl
theorem gTab : Tryd.prog.globalNamed "loop.example/stowage/impl.opBehind" = some 0 := by kernel_rfl
theorem gTabType : (Tryd.prog.globals[0]?).map (·.type) = some 34 := by kernel_rfl
theorem cellsT : Tryd.prog.cellsOf 34 = 35 := by kernel_rfl
theorem cellsI : Tryd.prog.cellsOf 3 = 1 := by kernel_rfl
theorem rowed : varsRowed Tryd.prog ["loop.example/stowage/impl.opBehind"] = true := by kernel_rfl

theorem table {W : World} (h : laidMetH Tryd.prog Rows.fnExactOpsPutRow.laid W) : Lib.TabIs Tryd.prog W "loop.example/stowage/impl.opBehind" .i64 tab :=
  Lib.tabIs_of_head (rest := []) gTab gTabType Tryd.underlying34 Tryd.underlying3 cellsI cellsT h
theorem tabOf {W : World} (h : laidMetH Tryd.prog Rows.fnExactOpsPutRow.laid W) : Tab W := by
  have hc : ∀ k, k < 35 → W.cell? ⟨0, k, none⟩ = some (.int .i64 (tab.getD k 0)) := fun k hk => (table h).cell gTab k (by exact hk)
  exact ⟨World.block_lt_of_cell? W _ (hc 0 (by omega)), hc⟩

theorem exists_list {P : Nat → Op3 → Prop} : ∀ (n : Nat), (∀ i, i < n → ∃ a, P i a) → ∃ l : List Op3, l.length = n ∧ ∀ k (h : k < l.length), P k l[k]
  | 0, _ => ⟨[], rfl, fun k h => by simp at h⟩
  | n + 1, h => by
    obtain ⟨l, hl, hp⟩ := exists_list n (fun i hi => h i (by omega))
    obtain ⟨a, ha⟩ := h n (by omega)
    refine ⟨l ++ [a], by simp [hl], fun k hk => ?_⟩
    by_cases hkn : k < n
    · rw [List.getElem_append_left (by omega)]; exact hp k (by omega)
    · have : k = l.length := by simp at hk; omega
      subst this
      rw [List.getElem_append_right (Nat.le_refl _)]
      simp; rw [hl]; exact ha

theorem cells41 : Tryd.prog.cellsOf 41 = 3 := by kernel_rfl

/-- what the reading of the argument gives -/
theorem arg_of {H : Type} {enc : TypeId × Value → H} {W : World} {fuel : Nat} {ao : Option Addr} {len cap : Nat} {x : DataW H × List MemPlace}
    (h : DataW.trod enc Tryd.prog W 0 (fun _ => true) true fuel 28 [.slice ao len cap] = some x) : len ≤ maxLen ∧ ∃ ts, Arg3 W ao len ts := by
  rcases Go.Deep.open_slice Tryd.underlying28 h with ⟨hcs, _⟩ | ⟨a, len', cap', m, n, D, Pl, hcs, _, hl, hm, hmm, _, hx⟩
  · simp at hcs
    obtain ⟨rfl, rfl, rfl⟩ := hcs
    exact ⟨by unfold maxLen; omega, [], rfl, .inl rfl⟩
  · simp at hcs
    obtain ⟨rfl, rfl, rfl⟩ := hcs
    refine ⟨by omega, ?_⟩
    by_cases h0 : len = 0
    · subst h0; exact ⟨[], rfl, .inl rfl⟩
    · rw [cells41] at hx
      simp only [if_true] at hmm
      have key : ∀ i, i < len → ∃ t : Op3, W.cell? (a.add (i * 3)) = some (.int .i64 t.at_) ∧ W.cell? ((a.add (i * 3)).add 1) = some (.int .i64 t.op) ∧ W.cell? ((a.add (i * 3)).add 2) = some (.int .i64 t.num) := by
        intro i hi
        obtain ⟨cs', h1, h2⟩ := hx i (by omega)
        obtain ⟨_, hlen, hc⟩ := World.cells?_some h1
        obtain ⟨y0, y1, y2, n', _, _, e0, e1, e2⟩ := Go.Deep.trod_struct3 Tryd.underlying41 h2
        obtain ⟨p0, q0, _, _⟩ := DataW.trod_int Tryd.underlying3 e0
        obtain ⟨p1, q1, _, _⟩ := DataW.trod_int Tryd.underlying3 e1
        obtain ⟨p2, q2, _, _⟩ := DataW.trod_int Tryd.underlying3 e2
        simp only [cellsI] at q0 q1 q2
        have g0 : cs'[0]? = some (.int .i64 p0) := by
          have := congrArg (·[0]?) q0; simpa [List.getElem?_take, List.getElem?_drop] using this
        have g1 : cs'[1]? = some (.int .i64 p1) := by
          have := congrArg (·[0]?) q1; simpa [List.getElem?_take, List.getElem?_drop] using this
        have g2 : cs'[2]? = some (.int .i64 p2) := by
          have := congrArg (·[0]?) q2; simpa [List.getElem?_take, List.getElem?_drop] using this
        have c0 := hc 0 (by omega)
        have c1 := hc 1 (by omega)
        have c2 := hc 2 (by omega)
        rw [g0] at c0
        rw [g1] at c1
        rw [g2] at c2
        refine ⟨⟨p0, p1, p2⟩, ?_, c1, c2⟩
        simpa [Addr.add] using c0
      obtain ⟨ts, hl2, hp⟩ := exists_list len key
      obtain ⟨b, off, spot⟩ := a
      have hspot : spot = none := by
        have := World.cell?_spot (hp 0 (by omega)).1
        simpa [Addr.add] using this
      subst hspot
      have hplain : ∀ o i, (⟨b, o, none⟩ : Addr).add i = ⟨b, o + i, none⟩ := fun o i => by unfold Addr.add; split <;> simp_all
      refine ⟨ts, hl2, .inr ⟨b, off, rfl, ?_, fun k hk => ?_⟩⟩
      · have := World.block_lt_of_cell? W _ (hp 0 (by omega)).1
        rw [hplain] at this
        exact this
      · have := hp k hk
        rw [hplain, hplain, hplain] at this
        exact this

theorem walk (ao : Option Addr) (len cap : Nat) (ts : List Op3) (hm : len ≤ maxLen) (w : World) (hA : Arg3 w ao len ts) (hT : Tab w) :
    Calls Tryd.prog 4 #[.slice ao len cap] w fun e w' => e = .returned (.bool true) ∧ Below w.heap.size w w' := by
  have hsz := fun w => szInsS_any ao len cap w (by unfold maxLen at hm; omega)
  by_cases h : len ≤ 1048576
  · simp only [h, if_true] at hsz
    have hlen := hA.1
    have hto := fun w hA => toInsS_any ao len cap ts w h hA
    have HT : Hid (Tab w) := hT
    have HA : Hid (Arg3 w ao len ts) := hA
    clear hA hT hm
    go_enter Tryd.func4, Tryd.ntmps4
    go_wp2_with (go_at_call 10; refine (hsz _).mono ?_; rintro e w1 ⟨rfl, hw⟩; replace hw := hw.symm; subst hw)
    refine (hto _ HA.out).mono ?_
    rintro e w1 ⟨v1, rfl, ho1, hb1⟩
    go_wp2_with fail
    refine (specOpsPut_any v1 ts _ w1 (by omega) ho1).mono ?_
    rintro e w2 ⟨rfl, hb2⟩
    have hb12 : Below w.heap.size w w2 := hb1.trans (hb2.mono hb1.size)
    go_wp2_with fail
    refine (hto _ (HA.out.keep hb12)).mono ?_
    rintro e w3 ⟨v3, rfl, ho3, hb3⟩
    have hb13 : Below w.heap.size w w3 := hb12.trans (hb3.mono hb12.size)
    go_wp2_with fail
    refine (OpsPut_any v3 ts _ w3 (by omega) ho3 (HT.out.keep hb13 HT.out.1)).mono ?_
    rintro e w4 ⟨rfl, hb4⟩
    have hb14 : Below w.heap.size w w4 := hb13.trans (hb4.mono hb13.size)
    go_wp2_with fail
    refine (hto _ (HA.out.keep hb14)).mono ?_
    rintro e w5 ⟨v5, rfl, ho5, hb5⟩
    have hb15 : Below w.heap.size w w5 := hb14.trans (hb5.mono hb14.size)
    go_wp2_with fail
    refine (eqInsS_same v3 v5 ts _ _ w5 (by omega) (own_below (own_below ho3 hb4) hb5) ho5).mono ?_
    rintro e w6 ⟨rfl, hb6⟩
    have HB : Hid (Below w.heap.size w w6) := hb15.trans (hb6.mono hb15.size)
    clear hb1 hb2 hb3 hb4 hb5 hb6 hb12 hb13 hb14 hb15 ho1 ho3 ho5 hto
    go_wp2
    go_ret
    exact ⟨rfl, HB.out⟩
  · simp only [h, if_false] at hsz
    go_enter Tryd.func4, Tryd.ntmps4
    go_wp2_with (go_at_call 10; refine (hsz _).mono ?_; rintro e w1 ⟨rfl, hw⟩; replace hw := hw.symm; subst hw)
    go_ret
    exact ⟨rfl, Below.refl _ _⟩

theorem contract (H : Type) (enc : TypeId × Value → H) (W : World) (base : Nat) (args : Array Value) (ds gs : List (DataW H)) (before : List MemPlace)
    (hval : ∀ (j : Nat) t v, Tryd.f4.params[j]? = some t → args[j]? = some v → Value.okWide Tryd.prog W .any base t v)
    (hW : DataW.Whole enc Tryd.prog Tryd.f4.params.toList Rows.fnExactOpsPutSpec.vars false W args.toList ds gs before) (hL : laidMetH Tryd.prog Rows.fnExactOpsPutRow.laid W) :
    Calls Tryd.prog 4 args W fun e W' => ∃ v, e = .returned v ∧ Rows.fnExactOpsPutSpec.post enc Tryd.prog Tryd.f4 false true false false W args v W' := by
  have hW' := hW
  obtain ⟨p, q, hA0, hV, rfl, hfz, hnd⟩ := hW
  have hA : DataW.TrodAll enc Tryd.prog W 0 (fun _ => true) true Tryd.f4.params.toList args.toList ds p := hA0
  rw [Tryd.params4] at hA hval
  obtain ⟨v0, vs0, d0, ds0, p0, q0, hargs, rfl, rfl, h0, r0⟩ := trodAll_cons hA
  obtain ⟨rfl, rfl, rfl⟩ := trodAll_nil r0
  obtain rfl : args = #[v0] := by cases args; simp_all
  obtain ⟨ao, len, cap, rfl⟩ := okWide_slice Tryd.underlying28 (hval 0 28 v0 rfl rfl)
  have k0 := h0
  have lt0 : ∀ x ∈ p0, x.block < W.heap.size := by obtain ⟨m, hm⟩ := k0; exact DataW.trod_lt m _ _ _ hm
  obtain ⟨hm, ts, hA3⟩ : len ≤ maxLen ∧ ∃ ts, Arg3 W ao len ts := by
    obtain ⟨fuel, hf⟩ := h0
    exact arg_of (by simpa [Value.cells] using hf)
  have hV2 : DataW.TrodVars enc Tryd.prog W (fun _ => true) ["loop.example/stowage/impl.opBehind"] gs q := hV
  obtain ⟨g1, hg1⟩ : ∃ g1, gs = [g1] := by
    obtain ⟨_, _, _, _, d, _, h, _⟩ := trodVars_one hV2
    exact ⟨d, h⟩
  subst hg1
  clear hA0
  refine (walk ao len cap ts hm W hA3 (tabOf hL)).mono fun e W' ⟨he, bel⟩ => ?_
  subst he
  exact ⟨_, rfl, _, _, _, [], _, q, hW', trodAll_mk1 (shut_bool Tryd.underlying4 _), (trodAll_cons_mk (Below.trod laidOut (by kernel_rfl) (of_decide_eq_true (by kernel_rfl)) k0 bel lt0) trodAll_mk0), Below.trodVars laidOut bel rowed hV2, bel.frame _, fun h => by cases h⟩

/- The world of the witness: the settled one, the table holding what its initialiser lays. -/
theorem laid_met (os : Os) : laidMet Tryd.prog Rows.fnExactOpsPutRow.laid (({ World.holding Tryd.prog os ⟨#[], #[], []⟩ with heap := (World.holding Tryd.prog os ⟨#[], #[], []⟩).heap.modify 0 fun | .cells _ t frozen => .cells (tab.map (Value.int .i64)).toArray t frozen | o => o } : World).forCall (fun _ _ => 0) ⟨#[], #[.slice none 0 0], []⟩).memory :=
  laidMet_of_run' 8 (by kernel_rfl) (by kernel_rfl)
theorem reads (os : Os) {H : Type} (enc : TypeId × Value → H) : ∃ places, DataW.whole enc Tryd.prog (({ World.holding Tryd.prog os ⟨#[], #[], []⟩ with heap := (World.holding Tryd.prog os ⟨#[], #[], []⟩).heap.modify 0 fun | .cells _ t frozen => .cells (tab.map (Value.int .i64)).toArray t frozen | o => o } : World).forCall (fun _ _ => 0) ⟨#[], #[.slice none 0 0], []⟩).memory Tryd.f4.params.toList Rows.fnExactOpsPutSpec.vars false #[Value.slice none 0 0].toList 8 = some ([.nil], [Rows.laid_loop_example_stowage_impl_opBehind], places) :=
  ⟨MemPlace.row ⟨0, 0, none⟩ 35, by kernel_rfl⟩

set_option maxRecDepth 100000 in
theorem lifted (os : Os) (started : os.Started) (H : Type) (enc : TypeId × Value → H) (F : Stop.Interp) :
    ReturnsInHanded {} Tryd.checked os 4 .any ((OpenSpec.ofChange Rows.fnExactOpsPutSpec).preRow enc Tryd.prog Tryd.f4 Rows.fnExactOpsPutRow.domain false Rows.fnExactOpsPutRow.laid) (((OpenSpec.ofChange Rows.fnExactOpsPutSpec).at F).post enc Tryd.prog Tryd.f4 false true false false) := by
  obtain ⟨places, hx⟩ := reads os enc
  refine returnsInHanded_of_row (C := Tryd.checked) (s := OpenSpec.ofChange Rows.fnExactOpsPutSpec) own started (by kernel_rfl) Tryd.func4
    (witness_row_at (enc := enc) (C := Tryd.checked) false ({ World.holding Tryd.prog os ⟨#[], #[], []⟩ with heap := (World.holding Tryd.prog os ⟨#[], #[], []⟩).heap.modify 0 fun | .cells _ t frozen => .cells (tab.map (Value.int .i64)).toArray t frozen | o => o }) #[.slice none 0 0] rfl (by kernel_rfl) (by kernel_rfl) (by kernel_rfl)
      (OpenSpec.preRow_of_cond 8 hx (by kernel_rfl) (fun k hk => by cases hk) (by kernel_rfl) (laid_met os))) ?_
  intro W base args ds gs before hval hW _ _ _ hL _ _
  exact contract H enc W base args ds gs before hval hW hL

theorem said : Rows.FnExactOpsPutSaid :=
  OpenClaim.holds_of_cond 4 Tryd.f4 rfl rfl rfl rfl rfl rfl rfl ⟨rfl, rfl, rfl, rfl, rfl⟩ rfl rfl rfl rfl rfl (by kernel_rfl) Tryd.func4 (by kernel_rfl)
    (of_decide_eq_true (by kernel_rfl)) (by unfold Func.isWrapper; first | (rw [if_pos (by decide +kernel)]; kernel_rfl) | (rw [if_neg (by decide +kernel)]; exact ⟨rfl, rfl⟩))
    (fun os started H enc _ F => by rw [OpenClaim.pre_eq_preRow]; exact lifted os started H enc F)

theorem plain (f : FuncId) (fn : Func) (hf : Tryd.pinned.checked.prog.funcNamed "loop.example/stowage/laws.FnExactOpsPut" = some f) (hfn : Tryd.pinned.checked.prog.funcs[f]? = some fn) :
    false = Tryd.pinned.checked.prog.looks [] ∧ ∀ (j : Nat) t, fn.params[j]? = some t → Tryd.pinned.checked.prog.wantsStandIn t = false := by
  obtain rfl : f = 4 := Option.some.inj ((show Tryd.prog.funcNamed "loop.example/stowage/laws.FnExactOpsPut" = some 4 by kernel_rfl).symm.trans hf) |>.symm
  obtain rfl : fn = Tryd.f4 := (Option.some.inj (Tryd.func4.symm.trans hfn)).symm
  refine ⟨by kernel_rfl, fun j t ht => ?_⟩
  rw [Tryd.params4] at ht
  obtain rfl : t = 28 := by simpa using Array.mem_of_getElem? ht
  exact (show Tryd.prog.wantsStandIn 28 = false by kernel_rfl)

theorem card : Rows.FnExactOpsPutCardSaid :=
  Claim7.holds_tied_plain_at .later [] _ _ _ _ said (fun _ h => by cases h) (by kernel_rfl) (fun _ h => by cases h) fnExactOpsPut_row_tie rfl ⟨rfl, rfl⟩ (by kernel_rfl) rfl plain (by kernel_rfl)

end Go.Proofs.YtnimkkchpmlddaaDoor.fnExactOpsPut
namespace Go.Proofs.YtnimkkchpmlddaaDoor
theorem fnExactOpsPutHolds : Rows.FnExactOpsPutCardSaid := fnExactOpsPut.card
end Go.Proofs.YtnimkkchpmlddaaDoor
