/- Proved: the law FnExactClassCheck returns true at every class and leaves its argument as it was, where the table of ops and the variable by which errors.As knows an error read as the program's text lays them (the card ties them): ClassCheck of the program answers as the specification's, at every argument, and writes into none. No other condition. -/
import Derived.Test.YtadgoaogkkffmaaGreatDoorClosed
import Derived.Test.YtadgoaogkkffmaaGreatDoorCards
import Derived.Test.YtadgoaogkkffmaaGreatDoorTie
import Derived.Test.YtadgoaogkkffmaaGreatDoorG02
import Derived.Test.YtadgoaogkkffmaaGreatDoorK12
import Derived.Deep.Slices
import Derived.Deep.Strs
import Derived.Lib.SmallJoins
import Derived.WalkKit
import Derived.ProofKit
import Derived.OpenShut
import Derived.ShutString
import Derived.OpenVars
import Derived.ChangeOld
import Derived.Deep.DeepHandedRow
import Derived.Lib.LaidTab
import Derived.LaidHandle
import Derived.LaidLaws
namespace Go.Proofs.YtadgoaogkkffmaaGreatDoor.fnExactClassCheck
open Go.ChangeShapes Go.WideShapes Go.ChangeAt Go.RowKit
open Go.ChangeMaps (open_string shut_string)
open Mx
set_option linter.unusedVariables false
set_option maxHeartbeats 2000000
set_option maxRecDepth 20000

theorem own : ownKnob Tryz.prog.godebug = none := by kernel_rfl
theorem laidOut : laidOutB Tryz.prog = true := by kernel_rfl

/-- the law's argument in its block, and the copy that is handed to the program in block C -/
structure At (w : World) (cs : Array Value) (C B : Nat) (vp vi vf vm : Value) (c : MClass) (W : World) : Prop where
  pb : PB w cs 27 W
  lk : Lk W C (arrC vp c.flags c.name c.super vi vf vm) 34
  cl : ClassW W B vp vi vf vm c
theorem At.keep {w : World} {cs : Array Value} {C B : Nat} {vp vi vf vm : Value} {c : MClass} {W W' : World} (h : At w cs C B vp vi vf vm c W) (hb : Below W.heap.size W W') : At w cs C B vp vi vf vm c W' := ⟨h.pb.keep hb, h.lk.keep hb, h.cl.keep hb⟩
theorem At.drew {w : World} {cs : Array Value} {C B : Nat} {vp vi vf vm : Value} {c : MClass} {W : World} (h : At w cs C B vp vi vf vm c W) : At w cs C B vp vi vf vm c W.drew := h.keep (Below.drew (Below.refl _ _))

theorem walk (c : MClass) (ap : Option Addr) (lp cp : Nat) (ai : Option Addr) (li ci : Nat) (af : Option Addr) (lf cf : Nat) (am : Option Addr) (lm cm : Nat) (w : World) (hT : Tab w) (hE : ErrW w) (hA : ArgCl w ap lp ai li af lf am lm c) :
    Calls Tryz.prog 3 #[.agg #[.slice ap lp cp, .int .i64 c.flags, .int .i64 c.name, .int .i64 c.super, .slice ai li ci, .slice af lf cf, .slice am lm cm]] w fun e w' => e = .returned (.bool true) ∧ Below w.heap.size w w' := by
  have P0 := PB.start w (arrC (.slice ap lp cp) c.flags c.name c.super (.slice ai li ci) (.slice af lf cf) (.slice am lm cm)) 27
  have hsz := szClass_any c ap lp cp ai li ci af lf cf am lm cm _ (hA.keep P0.old)
  have HA := hid hA
  have HT := hid (fun W (hW : Below w.heap.size w W) => hT.keep hW hT.1)
  have HE := hid (fun W (hW : Below w.heap.size w W) => hE.keep hW)
  clear hA hT hE
  go_enter Tryz.func3, Tryz.ntmps3
  go_wp2_with fail
  refine hsz.mono ?_
  rintro e w0 ⟨n, rfl, hn, hb0⟩
  have P1 := P0.keep hb0
  clear P0 hb0 hsz
  by_cases hneg : n < 0
  · have HO := hid P1.old
    clear hn P1
    go_wp2
    go_ret
    exact ⟨rfl, HO.out⟩
  · have hc : c.few := hn.resolve_left hneg
    have HC := hid hc
    have hto := fun W (hW : Below w.heap.size w W) => toClass_any c ap lp cp ai li ci af lf cf am lm cm W (HA.out.keep hW) hc
    obtain ⟨⟨c0, c1, c2, c3, c4, c5, c6⟩, _⟩ := P1.lk.c7
    clear hn hc
    go_wp2_with fail
    refine (hto _ P1.old).mono ?_
    rintro e w1 ⟨vp1, vi1, vf1, vm1, rfl, ho1, hb1⟩
    have P2 := P1.keep hb1
    have hS := specClassCheck_any c _ _ _ _ _ w1 HC.out ho1
    clear P1 hb1 ho1 c0 c1 c2 c3 c4 c5 c6
    go_wp2_with fail
    refine hS.mono ?_
    rintro e w2 ⟨r, rfl, hr, hb2⟩
    have P3 := P2.keep hb2
    have HR := hid hr
    obtain ⟨⟨c0, c1, c2, c3, c4, c5, c6⟩, _⟩ := P3.lk.c7
    clear P2 hb2 hr hS
    go_wp2_with fail
    refine (hto _ P3.old).mono ?_
    rintro e w3 ⟨vp3, vi3, vf3, vm3, rfl, ho3, hb3⟩
    have P4 := P3.keep hb3
    obtain ⟨q1, j1, hv1⟩ := own_len ho3.p
    obtain ⟨q2, j2, hv2⟩ := own_len ho3.i
    obtain ⟨q3, j3, hv3⟩ := own_len ho3.f
    obtain ⟨q4, j4, hv4⟩ := ho3.m.len
    subst hv1 hv2 hv3 hv4
    have X3 := hid ho3
    clear P3 hb3 ho3 c0 c1 c2 c3 c4 c5 c6
    have hbo := (Below.refl w3.heap.size w3).alloc (Nat.le_refl _) (.cells (arrC (.slice q1 c.pool.length j1) c.flags c.name c.super (.slice q2 c.faces.length j2) (.slice q3 c.fields.length j3) (.slice q4 c.methods.length j4)) 34)
    have T5 : At w (arrC (.slice ap lp cp) c.flags c.name c.super (.slice ai li ci) (.slice af lf cf) (.slice am lm cm)) w3.heap.size w2.heap.size (.slice q1 c.pool.length j1) (.slice q2 c.faces.length j2) (.slice q3 c.fields.length j3) (.slice q4 c.methods.length j4) c (w3.alloc (.cells (arrC (.slice q1 c.pool.length j1) c.flags c.name c.super (.slice q2 c.faces.length j2) (.slice q3 c.fields.length j3) (.slice q4 c.methods.length j4)) 34)) := ⟨P4.keep hbo, Lk.new _ _ _, X3.out.keep hbo⟩
    have hI := implClassCheck_any c _ _ _ _ _ _ HC.out (HT.out _ T5.pb.old) (HE.out _ T5.pb.old) T5.cl
    clear hbo P4 X3
    go_wp2_with fail
    refine hI.mono ?_
    rintro e w4 ⟨r', rfl, hr', hb4⟩
    have T6 := T5.keep hb4
    obtain rfl : r' = r := form_join hr' HR.out
    clear T5 hb4 hI HR hr'
    go_upto_region 10 with fail
    go_cut [26] (fun t wc => t = .bool false ∧ Hid (Below w.heap.size w wc))
    case first =>
      have T7 := T6.drew
      obtain ⟨⟨c0, c1, c2, c3, c4, c5, c6⟩, _⟩ := T7.pb.lk.c7
      obtain ⟨⟨d0, d1, d2, d3, d4, d5, d6⟩, _⟩ := T7.lk.c7
      have hO := T7.pb.old
      have hq := fun (W : World) vp vi vf vm B (hx : At w (arrC (.slice ap lp cp) c.flags c.name c.super (.slice ai li ci) (.slice af lf cf) (.slice am lm cm)) w3.heap.size w2.heap.size (.slice q1 c.pool.length j1) (.slice q2 c.faces.length j2) (.slice q3 c.fields.length j3) (.slice q4 c.methods.length j4) c W) (hy : ClassW W B vp vi vf vm c) => eqClass_same c _ _ _ _ vp vi vf vm _ B W HC.out hx.cl hy
      clear T6
      go_region_held (fun w' => w'.cell? ⟨w.heap.size, 0, none⟩ = some (.slice ap lp cp) ∧ w'.cell? ⟨w.heap.size, 1, none⟩ = some (.int .i64 c.flags) ∧ w'.cell? ⟨w.heap.size, 2, none⟩ = some (.int .i64 c.name) ∧ w'.cell? ⟨w.heap.size, 3, none⟩ = some (.int .i64 c.super) ∧ w'.cell? ⟨w.heap.size, 4, none⟩ = some (.slice ai li ci) ∧ w'.cell? ⟨w.heap.size, 5, none⟩ = some (.slice af lf cf) ∧ w'.cell? ⟨w.heap.size, 6, none⟩ = some (.slice am lm cm) ∧ w'.cell? ⟨w3.heap.size, 0, none⟩ = some (.slice q1 c.pool.length j1) ∧ w'.cell? ⟨w3.heap.size, 1, none⟩ = some (.int .i64 c.flags) ∧ w'.cell? ⟨w3.heap.size, 2, none⟩ = some (.int .i64 c.name) ∧ w'.cell? ⟨w3.heap.size, 3, none⟩ = some (.int .i64 c.super) ∧ w'.cell? ⟨w3.heap.size, 4, none⟩ = some (.slice q2 c.faces.length j2) ∧ w'.cell? ⟨w3.heap.size, 5, none⟩ = some (.slice q3 c.fields.length j3) ∧ w'.cell? ⟨w3.heap.size, 6, none⟩ = some (.slice q4 c.methods.length j4)) (refine ⟨?_, ?_, ?_, ?_, ?_, ?_, ?_, ?_, ?_, ?_, ?_, ?_, ?_, ?_⟩ <;> assumption) (first
        | (go_at_call 11; refine (hto _ (by assumption)).mono ?_; rintro e w8 ⟨vp8, vi8, vf8, vm8, rfl, ho8, hb8⟩; have T8 := At.keep (by assumption) hb8; obtain ⟨⟨e0, e1, e2, e3, e4, e5, e6⟩, _⟩ := T8.pb.lk.c7; obtain ⟨⟨f0, f1, f2, f3, f4, f5, f6⟩, _⟩ := T8.lk.c7)
        | (go_at_call 13; refine (hq _ _ _ _ _ _ (by assumption) (by assumption)).mono ?_; rintro e w9 ⟨rfl, hb9⟩; have T9 := At.keep (by assumption) hb9; obtain ⟨⟨g0, g1, g2, g3, g4, g5, g6⟩, _⟩ := T9.pb.lk.c7; obtain ⟨⟨h0, h1, h2, h3, h4, h5, h6⟩, _⟩ := T9.lk.c7))
      go_wp2_with fail
      go_meet
      case rel => exact ⟨rfl, T9.pb.old⟩
    case rest =>
      obtain ⟨rfl, HO⟩ := hcut
      clear T6
      go_wp2_with fail
      go_ret
      exact ⟨rfl, HO.out⟩

theorem gTab : Tryz.prog.globalNamed "loop.example/stowage/impl.opBehind" = some 1 := by kernel_rfl
theorem gTabType : (Tryz.prog.globals[1]?).map (·.type) = some 299 := by kernel_rfl
theorem cellsT : Tryz.prog.cellsOf 299 = 35 := by kernel_rfl
theorem cellsI : Tryz.prog.cellsOf 3 = 1 := by kernel_rfl
theorem rowed : varsRowed Tryz.prog ["loop.example/stowage/impl.opBehind"] = true := by kernel_rfl
theorem et : Tryz.prog.globalNamed "errors.errorType" = some 0 := by kernel_rfl
theorem rt : (Tryz.prog.cutTypes.find? (·.1 == "internal/reflectlite.rtype")).map (·.2) = some 175 := by kernel_rfl
theorem oneRow : ((List.range 394).filter fun t => Tryz.prog.rowNamed t [101, 114, 114, 111, 114]) = [65] := by kernel_rfl
theorem tsize : Tryz.prog.types.size = 394 := by kernel_rfl

theorem parts {W : World} (h : laidMetH Tryz.prog Rows.fnExactClassCheckRow.laid W) : laidMet Tryz.prog [("loop.example/stowage/impl.opBehind", Rows.laid_loop_example_stowage_impl_opBehind)] W ∧ handlesMet Tryz.prog [("errors.errorType", Rows.laid_errors_errorType)] W := h
theorem table {W : World} (h : laidMetH Tryz.prog Rows.fnExactClassCheckRow.laid W) : Lib.TabIs Tryz.prog W "loop.example/stowage/impl.opBehind" .i64 tab :=
  Lib.tabIs_of_head (rest := []) gTab gTabType Tryz.underlying299 Tryz.underlying3 cellsI cellsT (parts h).1
theorem tabOf {W : World} (h : laidMetH Tryz.prog Rows.fnExactClassCheckRow.laid W) : Tab W := by
  have hc : ∀ k, k < 35 → W.cell? ⟨1, k, none⟩ = some (.int .i64 (tab.getD k 0)) := fun k hk => (table h).cell gTab k (by exact hk)
  exact ⟨World.block_lt_of_cell? W _ (hc 0 (by omega)), hc⟩
theorem errOf {W : World} (h : laidMetH Tryz.prog Rows.fnExactClassCheckRow.laid W) : ErrW W := by
  obtain ⟨name, u, ty, e1, e2, e3, e4, e5⟩ := (parts h).2 _ (List.mem_singleton.2 rfl)
  have en : name = [101, 114, 114, 111, 114] := (Option.some.inj e1).symm
  subst en
  obtain rfl := Option.some.inj (rt.symm.trans e2)
  have hm : ty ∈ (List.range 394).filter fun t => Tryz.prog.rowNamed t [101, 114, 114, 111, 114] := List.mem_filter.2 ⟨List.mem_range.2 (by rw [← tsize]; exact e3), e4⟩
  rw [oneRow] at hm
  obtain rfl := List.mem_singleton.1 hm
  have hh : typeHandle Tryz.prog 65 = .pointer (some ⟨6, 65, none⟩) := by kernel_rfl
  rw [hh] at e5
  unfold ErrW
  simpa using World.var?_cell et e5 0

theorem contract (H : Type) (enc : TypeId × Value → H) (W : World) (base : Nat) (args : Array Value) (ds gs : List (DataW H)) (before : List MemPlace)
    (hval : ∀ (j : Nat) t v, Tryz.f3.params[j]? = some t → args[j]? = some v → Value.okWide Tryz.prog W .any base t v)
    (hW : DataW.Whole enc Tryz.prog Tryz.f3.params.toList Rows.fnExactClassCheckSpec.vars false W args.toList ds gs before) (hL : laidMetH Tryz.prog Rows.fnExactClassCheckRow.laid W) :
    Calls Tryz.prog 3 args W fun e W' => ∃ v, e = .returned v ∧ Rows.fnExactClassCheckSpec.post enc Tryz.prog Tryz.f3 false true false false W args v W' := by
  have hW' := hW
  obtain ⟨p, q, hA0, hV, rfl, hfz, hnd⟩ := hW
  have hA : DataW.TrodAll enc Tryz.prog W 0 (fun _ => true) true Tryz.f3.params.toList args.toList ds p := hA0
  rw [Tryz.params3] at hA hval
  obtain ⟨v0, vs0, d0, ds0, p0, q0, hargs, rfl, rfl, h0, r0⟩ := trodAll_cons hA
  obtain ⟨rfl, rfl, rfl⟩ := trodAll_nil r0
  obtain rfl : args = #[v0] := by cases args; simp_all
  obtain ⟨cs, rfl, hcs⟩ := okWide_struct Tryz.underlying27 (hval 0 27 v0 rfl rfl)
  have k0 := h0
  have lt0 : ∀ x ∈ p0, x.block < W.heap.size := by obtain ⟨m, hm⟩ := k0; exact DataW.trod_lt m _ _ _ hm
  obtain ⟨c, ap, lp, cp, ai, li, ci, af, lf, cf, am, lm, cm, hl, hC⟩ : ∃ (c : MClass) (ap : Option Addr) (lp cp : Nat) (ai : Option Addr) (li ci : Nat) (af : Option Addr) (lf cf : Nat) (am : Option Addr) (lm cm : Nat), cs.toList = [.slice ap lp cp, .int .i64 c.flags, .int .i64 c.name, .int .i64 c.super, .slice ai li ci, .slice af lf cf, .slice am lm cm] ∧ ArgCl W ap lp ai li af lf am lm c := by
    obtain ⟨fuel, hf⟩ := h0
    exact class_of (by simpa [Value.cells] using hf)
  obtain rfl : cs = #[.slice ap lp cp, .int .i64 c.flags, .int .i64 c.name, .int .i64 c.super, .slice ai li ci, .slice af lf cf, .slice am lm cm] := by cases cs; simp_all
  have hV2 : DataW.TrodVars enc Tryz.prog W (fun _ => true) ["loop.example/stowage/impl.opBehind"] gs q := hV
  obtain ⟨g1, hg1⟩ : ∃ g1, gs = [g1] := by
    obtain ⟨_, _, _, _, d, _, h, _⟩ := trodVars_one hV2
    exact ⟨d, h⟩
  subst hg1
  clear hA0
  refine (walk c ap lp cp ai li ci af lf cf am lm cm W (tabOf hL) (errOf hL) hC).mono fun e W' ⟨he, bel⟩ => ?_
  subst he
  exact ⟨_, rfl, _, _, _, [], _, q, hW', trodAll_mk1 (shut_bool Tryz.underlying4 _), (trodAll_cons_mk (Below.trod laidOut (by kernel_rfl) (of_decide_eq_true (by kernel_rfl)) k0 bel lt0) trodAll_mk0), Below.trodVars laidOut bel rowed hV2, bel.frame _, fun h => by cases h⟩

/- The world of the witness: the settled one, the two variables holding what their initialisers lay. -/
theorem laid_met (os : Os) : laidMetH Tryz.prog Rows.fnExactClassCheckRow.laid (({ World.holding Tryz.prog os ⟨#[], #[], []⟩ with heap := ((World.holding Tryz.prog os ⟨#[], #[], []⟩).heap.modify 1 fun | .cells _ t frozen => .cells (tab.map (Value.int .i64)).toArray t frozen | o => o).modify 0 fun | .cells _ t frozen => .cells #[.iface 175 (.agg #[.pointer (some ⟨6, 65, none⟩)])] t frozen | o => o } : World).forCall (fun _ _ => 0) ⟨#[], #[.agg #[.slice none 0 0, .int .i64 0, .int .i64 0, .int .i64 0, .slice none 0 0, .slice none 0 0, .slice none 0 0]], []⟩).memory :=
  laidMetH_of_parts (laidMet_of_run' 8 (by kernel_rfl) (by kernel_rfl)) (by kernel_rfl)
theorem reads (os : Os) {H : Type} (enc : TypeId × Value → H) : ∃ places, DataW.whole enc Tryz.prog (({ World.holding Tryz.prog os ⟨#[], #[], []⟩ with heap := ((World.holding Tryz.prog os ⟨#[], #[], []⟩).heap.modify 1 fun | .cells _ t frozen => .cells (tab.map (Value.int .i64)).toArray t frozen | o => o).modify 0 fun | .cells _ t frozen => .cells #[.iface 175 (.agg #[.pointer (some ⟨6, 65, none⟩)])] t frozen | o => o } : World).forCall (fun _ _ => 0) ⟨#[], #[.agg #[.slice none 0 0, .int .i64 0, .int .i64 0, .int .i64 0, .slice none 0 0, .slice none 0 0, .slice none 0 0]], []⟩).memory Tryz.f3.params.toList Rows.fnExactClassCheckSpec.vars false #[Value.agg #[.slice none 0 0, .int .i64 0, .int .i64 0, .int .i64 0, .slice none 0 0, .slice none 0 0, .slice none 0 0]].toList 8 = some ([.agg [.nil, .lit (.int .i64 0), .lit (.int .i64 0), .lit (.int .i64 0), .nil, .nil, .nil]], [Rows.laid_loop_example_stowage_impl_opBehind], places) :=
  ⟨MemPlace.row ⟨1, 0, none⟩ 35, by kernel_rfl⟩

set_option maxRecDepth 100000 in
theorem lifted (os : Os) (started : os.Started) (H : Type) (enc : TypeId × Value → H) (F : Stop.Interp) :
    ReturnsInHanded {} Tryz.checked os 3 .any ((OpenSpec.ofChange Rows.fnExactClassCheckSpec).preRow enc Tryz.prog Tryz.f3 Rows.fnExactClassCheckRow.domain false Rows.fnExactClassCheckRow.laid) (((OpenSpec.ofChange Rows.fnExactClassCheckSpec).at F).post enc Tryz.prog Tryz.f3 false true false false) := by
  obtain ⟨places, hx⟩ := reads os enc
  refine returnsInHanded_of_row (C := Tryz.checked) (s := OpenSpec.ofChange Rows.fnExactClassCheckSpec) own started (by kernel_rfl) Tryz.func3
    (witness_row_at (enc := enc) (C := Tryz.checked) false ({ World.holding Tryz.prog os ⟨#[], #[], []⟩ with heap := ((World.holding Tryz.prog os ⟨#[], #[], []⟩).heap.modify 1 fun | .cells _ t frozen => .cells (tab.map (Value.int .i64)).toArray t frozen | o => o).modify 0 fun | .cells _ t frozen => .cells #[.iface 175 (.agg #[.pointer (some ⟨6, 65, none⟩)])] t frozen | o => o }) #[.agg #[.slice none 0 0, .int .i64 0, .int .i64 0, .int .i64 0, .slice none 0 0, .slice none 0 0, .slice none 0 0]] rfl (by kernel_rfl) (by kernel_rfl) (by kernel_rfl)
      (OpenSpec.preRow_of_cond 8 hx (by kernel_rfl) (fun k hk => by cases hk) (by kernel_rfl) (laid_met os))) ?_
  intro W base args ds gs before hval hW _ _ _ hL _ _
  exact contract H enc W base args ds gs before hval hW hL

/- The closed facts of the row, each by itself. -/
theorem k00 : Rows.fnExactClassCheckRow.wf (OpenSpec.ofChange (OpenSpec.ofChange Rows.fnExactClassCheckSpec).bare) = true := by kernel_rfl
theorem k01 : laidOutB Tryz.prog = true := by kernel_rfl
theorem k02 : mapsRowed Tryz.prog = true := by kernel_rfl
theorem k03 : Tryz.f3.params.all (Tryz.prog.readableRec ·) = true := by kernel_rfl
theorem k04 : namedTie Tryz.prog Rows.fnExactClassCheckRow.named (OpenSpec.ofChange Rows.fnExactClassCheckSpec).bare.vars = true := by kernel_rfl
theorem k05 : (Rows.fnExactClassCheckRow.stops == []) = true := by kernel_rfl
theorem k06 : (Tryz.prog.stops == []) = true := by kernel_rfl
theorem k07 : (Rows.fnExactClassCheckRow.knobs == []) = true := by kernel_rfl
theorem k08 : (Tryz.prog.stopKnobs == []) = true := by kernel_rfl
theorem k09 : (Rows.fnExactClassCheckRow.inPlace == Tryz.prog.inPlace 3) = true := by kernel_rfl
theorem k10 : (Rows.fnExactClassCheckRow.unfollowed == Tryz.prog.unfollowed 3) = true := by kernel_rfl
theorem k11 : (Rows.fnExactClassCheckRow.recurses == Tryz.prog.recurses 3) = true := by kernel_rfl
theorem k12 : (Rows.fnExactClassCheckRow.named == Tryz.prog.varsNamed 3) = true := by kernel_rfl
theorem k13 : (Rows.fnExactClassCheckRow.maps == (Tryz.f3.params.toList ++ (OpenSpec.ofChange Rows.fnExactClassCheckSpec).bare.plain.varTypes Tryz.prog).any (Tryz.prog.mapsRec ·)) = true := by kernel_rfl
theorem k14 : (Rows.fnExactClassCheckRow.ifaces == (Tryz.f3.params.toList ++ (OpenSpec.ofChange Rows.fnExactClassCheckSpec).bare.plain.varTypes Tryz.prog).any (Tryz.prog.ifacesRec ·)) = true := by kernel_rfl
theorem k15 : (Rows.fnExactClassCheckRow.mapsOut == Tryz.prog.mapsAmong Tryz.f3.resultTypes.toList) = true := by kernel_rfl
theorem k16 : (Rows.fnExactClassCheckRow.loops == (Tryz.f3.params.toList ++ (OpenSpec.ofChange Rows.fnExactClassCheckSpec).bare.plain.varTypes Tryz.prog).any (Tryz.prog.loopsFrom ·)) = true := by kernel_rfl
theorem k17 : (Rows.fnExactClassCheckRow.wideKeys == (Tryz.f3.params.toList ++ (OpenSpec.ofChange Rows.fnExactClassCheckSpec).bare.plain.varTypes Tryz.prog ++ Tryz.f3.resultTypes.toList).any (Tryz.prog.wideKeysFrom ·)) = true := by kernel_rfl
theorem k18 : (OpenSpec.ofChange Rows.fnExactClassCheckSpec).bare.vars.all (Tryz.prog.varReadable ·) = true := by kernel_rfl
theorem k19 : Tryz.f3.resultTypes.all (fun t => Tryz.prog.readableRec t && decide (t < Tryz.prog.types.size)) = true := by kernel_rfl
theorem k20 : (Rows.fnExactClassCheckRow.ifacesOut == Tryz.f3.resultTypes.toList.any (Tryz.prog.ifacesRec ·)) = true := by kernel_rfl
theorem k21 : (Rows.fnExactClassCheckRow.loopsOut == Tryz.f3.resultTypes.toList.any (Tryz.prog.loopsFrom ·)) = true := by kernel_rfl
theorem k22 : (Rows.fnExactClassCheckRow.plainKeys == Tryz.prog.plainKeys) = true := by kernel_rfl
theorem k23 : Rows.fnExactClassCheckRow.shortTexts.isNone = true := by kernel_rfl
theorem k24 : Tryz.prog.stopsHeard = true := by kernel_rfl
theorem k25 : Tryz.prog.mayEnter = true := by kernel_rfl
theorem k26 : (Rows.fnExactClassCheckRow.lifted == Tryz.prog.liftsFinal) = true := by kernel_rfl
theorem k27 : (Tryz.prog.make == some Rows.fnExactClassCheckRow.make) = true := by kernel_rfl
theorem k28 : (Rows.fnExactClassCheckRow.kinds == (if Rows.fnExactClassCheckRow.domain.isEmpty then [] else Tryz.f3.params.toList.map fun t => match Tryz.prog.underlying t with | some (.int k) => some k | _ => none)) = true := by kernel_rfl
theorem k29 : (Rows.fnExactClassCheckRow.pinned == Rows.fnExactClassCheckRow.pinnedBy) = true := by kernel_rfl
theorem k30 : (Rows.fnExactClassCheckRow.veiled == (Tryz.f3.params.toList ++ (OpenSpec.ofChange Rows.fnExactClassCheckSpec).bare.plain.varTypes Tryz.prog ++ Tryz.f3.resultTypes.toList).any (Tryz.prog.veiledRec ·)) = true := by kernel_rfl
theorem k31 : Rows.fnExactClassCheckRow.veiledFits Tryz.prog Tryz.f3.params.toList (Tryz.f3.params.toList ++ (OpenSpec.ofChange Rows.fnExactClassCheckSpec).bare.plain.varTypes Tryz.prog ++ Tryz.f3.resultTypes.toList) = true := by kernel_rfl
theorem closed : joinedFacts Tryz.prog 3 Tryz.f3 (OpenSpec.ofChange Rows.fnExactClassCheckSpec).bare Rows.fnExactClassCheckRow = true :=
  joined_of k00 k01 k02 k03 k04 k05 k06 k07 k08 k09 k10 k11 k12 k13 k14 k15 k16 k17 k18 k19 k20 k21 k22 k23 k24 k25 k26 k27 k28 k29 k30 k31

theorem said : Rows.FnExactClassCheckSaid :=
  OpenClaim.holds_of_cond 3 Tryz.f3 rfl rfl rfl rfl rfl rfl rfl ⟨rfl, rfl, rfl, rfl, rfl⟩ rfl rfl rfl rfl rfl (by as_aux_lemma => kernel_rfl) Tryz.func3 closed
    (of_decide_eq_true (by kernel_rfl)) (by unfold Func.isWrapper; first | (rw [if_pos (by decide +kernel)]; kernel_rfl) | (rw [if_neg (by decide +kernel)]; exact ⟨rfl, rfl⟩))
    (fun os started H enc _ F => by rw [OpenClaim.pre_eq_preRow]; exact lifted os started H enc F)

theorem plain (f : FuncId) (fn : Func) (hf : Tryz.pinned.checked.prog.funcNamed "loop.example/stowage/laws.FnExactClassCheck" = some f) (hfn : Tryz.pinned.checked.prog.funcs[f]? = some fn) :
    true = Tryz.pinned.checked.prog.looks [] ∧ ∀ (j : Nat) t, fn.params[j]? = some t → Tryz.pinned.checked.prog.wantsStandIn t = false := by
  obtain rfl : f = 3 := Option.some.inj ((show Tryz.prog.funcNamed "loop.example/stowage/laws.FnExactClassCheck" = some 3 by kernel_rfl).symm.trans hf) |>.symm
  obtain rfl : fn = Tryz.f3 := (Option.some.inj (Tryz.func3.symm.trans hfn)).symm
  refine ⟨by kernel_rfl, fun j t ht => ?_⟩
  rw [Tryz.params3] at ht
  obtain rfl : t = 27 := by simpa using Array.mem_of_getElem? ht
  exact (show Tryz.prog.wantsStandIn 27 = false by kernel_rfl)

theorem card : Rows.FnExactClassCheckCardSaid :=
  Claim7.holds_tied_plain_at .later [] _ _ _ _ said (fun _ h => by cases h) (by kernel_rfl) (fun _ h => by cases h) fnExactClassCheck_row_tie rfl ⟨rfl, rfl⟩ (by kernel_rfl) rfl plain (by kernel_rfl)

end Go.Proofs.YtadgoaogkkffmaaGreatDoor.fnExactClassCheck
namespace Go.Proofs.YtadgoaogkkffmaaGreatDoor
theorem fnExactClassCheckHolds : Rows.FnExactClassCheckCardSaid := fnExactClassCheck.card
end Go.Proofs.YtadgoaogkkffmaaGreatDoor
