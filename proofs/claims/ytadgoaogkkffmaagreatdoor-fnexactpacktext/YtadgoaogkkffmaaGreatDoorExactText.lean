/- Proved: the law FnExactPackText returns true at every class and every number and leaves its arguments as they were, where the table of ops and the variable by which errors.As knows an error read as the program's text lays them (the card ties them): PackText of the program answers as the specification's, at every argument, and writes into none. No other condition. -/
import Derived.Test.YtadgoaogkkffmaaGreatDoorSayImpl
import Derived.Test.YtadgoaogkkffmaaGreatDoorClosed
import Derived.Test.YtadgoaogkkffmaaGreatDoorCards
import Derived.Test.YtadgoaogkkffmaaGreatDoorTie
import Derived.Test.YtadgoaogkkffmaaGreatDoorG02
import Derived.Test.YtadgoaogkkffmaaGreatDoorK12
import Derived.Deep.Slices
import Derived.Deep.Strs
import Derived.Lib.SmallJoins
import Derived.WalkKit
import Derived.ProofKit
import Derived.OpenShut
import Derived.ShutString
import Derived.OpenVars
import Derived.ChangeOld
import Derived.Deep.DeepHandedRow
import Derived.Lib.LaidTab
import Derived.LaidHandle
import Derived.LaidLaws
namespace Go.Proofs.YtadgoaogkkffmaaGreatDoor.fnExactPackText
open Go.ChangeShapes Go.WideShapes Go.ChangeAt Go.RowKit
open Go.ChangeMaps (open_string shut_string)
open Mx
set_option linter.unusedVariables false
set_option maxHeartbeats 2000000
set_option maxRecDepth 20000

theorem own : ownKnob Tryz.prog.godebug = none := by kernel_rfl
theorem laidOut : laidOutB Tryz.prog = true := by kernel_rfl

theorem pool_zero {p1 p2 p3 p4 p5 p6 : Prop} (h : firstP p1 p2 p3 p4 p5 p6 0) : p2 := by
  unfold firstP at h
  rcases h with h | h | h | h | h | h | h
  · exact absurd h.2 (by decide)
  · exact absurd h.2.2 (by decide)
  · exact h.2.1
  · exact h.2.1
  · exact h.2.1
  · exact h.2.1
  · exact h.2.1
theorem text_join {c : MClass} {i : Int} {r r' : ByteArray} (h1 : ∃ n, firstP (fileP c) (poolC c.pool = 0) (headNI c ∧ headFI c) (fieldsI c) (methodsI c) (codesI c) n ∧ r' = textI c i n) (h2 : ∃ n, firstP (fileP c) (poolC c.pool = 0) (headP c) (fieldsP c) (methodsP c) (codesP c) n ∧ r = textS c i n) : r' = r := by
  obtain ⟨n, h1, rfl⟩ := h1
  obtain ⟨k, h2, rfl⟩ := h2
  obtain rfl := form_join h1 h2
  unfold textI textS
  by_cases h0 : n = 0
  · subst h0
    have hp := pool_zero h2
    by_cases hi : 1 ≤ i ∧ i ≤ (c.pool.length : Int)
    · rw [if_pos rfl, if_pos ⟨rfl, hi⟩, say_join hp hi]
    · rw [if_pos rfl, if_neg (fun h => hi h.2), say_out hi]
  · rw [if_neg h0, if_neg (fun h => h0 h.1)]

def deB32 : List Int := [0, 1, 28, 2, 29, 14, 24, 3, 30, 22, 20, 15, 25, 17, 4, 8, 31, 27, 13, 23, 21, 19, 16, 7, 26, 12, 18, 6, 11, 5, 10, 9]
def deB64 : List Int := [0, 1, 56, 2, 57, 49, 28, 3, 61, 58, 42, 50, 38, 29, 17, 4, 62, 47, 59, 36, 45, 43, 51, 22, 53, 39, 33, 30, 24, 18, 12, 5, 63, 55, 48, 27, 60, 41, 37, 16, 46, 35, 44, 21, 52, 32, 23, 11, 54, 26, 40, 15, 34, 20, 31, 10, 25, 14, 19, 9, 13, 8, 7, 6]
def pow10L : List Int := [1, 10, 100, 1000, 10000, 100000, 1000000, 10000000, 100000000, 1000000000, 10000000000, 100000000000, 1000000000000, 10000000000000, 100000000000000, 1000000000000000, 10000000000000000, 100000000000000000, 1000000000000000000, 10000000000000000000]

/-- the law's argument in its block, and the copy that is handed to the program in block C -/
structure At (w : World) (cs : Array Value) (C B : Nat) (vp vi vf vm : Value) (c : MClass) (W : World) : Prop where
  pb : PB w cs 27 W
  lk : Lk W C (arrC vp c.flags c.name c.super vi vf vm) 34
  cl : ClassW W B vp vi vf vm c
theorem At.keep {w : World} {cs : Array Value} {C B : Nat} {vp vi vf vm : Value} {c : MClass} {W W' : World} (h : At w cs C B vp vi vf vm c W) (hb : Below W.heap.size W W') : At w cs C B vp vi vf vm c W' := ⟨h.pb.keep hb, h.lk.keep hb, h.cl.keep hb⟩
theorem At.drew {w : World} {cs : Array Value} {C B : Nat} {vp vi vf vm : Value} {c : MClass} {W : World} (h : At w cs C B vp vi vf vm c W) : At w cs C B vp vi vf vm c W.drew := h.keep (Below.drew (Below.refl _ _))

theorem walk (c : MClass) (ix : Int) (ap : Option Addr) (lp cp : Nat) (ai : Option Addr) (li ci : Nat) (af : Option Addr) (lf cf : Nat) (am : Option Addr) (lm cm : Nat) (w : World) (hT : Tab w) (hE : ErrW w) (hA : ArgCl w ap lp ai li af lf am lm c) :
    Calls Tryz.prog 6 #[.agg #[.slice ap lp cp, .int .i64 c.flags, .int .i64 c.name, .int .i64 c.super, .slice ai li ci, .slice af lf cf, .slice am lm cm], .int .i64 ix] w fun e w' => e = .returned (.bool true) ∧ Below w.heap.size w w' := by
  have P0 := PB.start w (arrC (.slice ap lp cp) c.flags c.name c.super (.slice ai li ci) (.slice af lf cf) (.slice am lm cm)) 27
  have hsz := szClass_any c ap lp cp ai li ci af lf cf am lm cm _ (hA.keep P0.old)
  have HA := hid hA
  have HT := hid (fun W (hW : Below w.heap.size w W) => hT.keep hW hT.1)
  have HE := hid (fun W (hW : Below w.heap.size w W) => hE.keep hW)
  clear hA hT hE
  go_enter Tryz.func6, Tryz.ntmps6
  go_wp2_with fail
  refine hsz.mono ?_
  rintro e w0 ⟨n, rfl, hn, hb0⟩
  have P1 := P0.keep hb0
  clear P0 hb0 hsz
  by_cases hneg : n < 0
  · have HO := hid P1.old
    clear hn P1
    go_wp2
    go_ret
    exact ⟨rfl, HO.out⟩
  · have hc : c.few := hn.resolve_left hneg
    have HC := hid hc
    have hto := fun W (hW : Below w.heap.size w W) => toClass_any c ap lp cp ai li ci af lf cf am lm cm W (HA.out.keep hW) hc
    obtain ⟨⟨c0, c1, c2, c3, c4, c5, c6⟩, _⟩ := P1.lk.c7
    clear hn hc
    go_wp2_with fail
    refine (hto _ P1.old).mono ?_
    rintro e w1 ⟨vp1, vi1, vf1, vm1, rfl, ho1, hb1⟩
    have P2 := P1.keep hb1
    have hS := specText_any c ix _ _ _ _ _ w1 _ HC.out ho1 (fun h => pool_zero h) (fun W hW => specClassCheck_any c _ _ _ _ _ W HC.out (ho1.keep hW))
    clear P1 hb1 ho1 c0 c1 c2 c3 c4 c5 c6
    go_wp2_with fail
    refine hS.mono ?_
    rintro e w2 ⟨r, rfl, hr, hb2⟩
    have P3 := P2.keep hb2
    have HR := hid hr
    obtain ⟨⟨c0, c1, c2, c3, c4, c5, c6⟩, _⟩ := P3.lk.c7
    clear P2 hb2 hr hS
    go_wp2_with fail
    refine (hto _ P3.old).mono ?_
    rintro e w3 ⟨vp3, vi3, vf3, vm3, rfl, ho3, hb3⟩
    have P4 := P3.keep hb3
    obtain ⟨q1, j1, hv1⟩ := own_len ho3.p
    obtain ⟨q2, j2, hv2⟩ := own_len ho3.i
    obtain ⟨q3, j3, hv3⟩ := own_len ho3.f
    obtain ⟨q4, j4, hv4⟩ := ho3.m.len
    subst hv1 hv2 hv3 hv4
    have X3 := hid ho3
    clear P3 hb3 ho3 c0 c1 c2 c3 c4 c5 c6
    have hbo := (Below.refl w3.heap.size w3).alloc (Nat.le_refl _) (.cells (arrC (.slice q1 c.pool.length j1) c.flags c.name c.super (.slice q2 c.faces.length j2) (.slice q3 c.fields.length j3) (.slice q4 c.methods.length j4)) 34)
    have T5 : At w (arrC (.slice ap lp cp) c.flags c.name c.super (.slice ai li ci) (.slice af lf cf) (.slice am lm cm)) w3.heap.size w2.heap.size (.slice q1 c.pool.length j1) (.slice q2 c.faces.length j2) (.slice q3 c.fields.length j3) (.slice q4 c.methods.length j4) c (w3.alloc (.cells (arrC (.slice q1 c.pool.length j1) c.flags c.name c.super (.slice q2 c.faces.length j2) (.slice q3 c.fields.length j3) (.slice q4 c.methods.length j4)) 34)) := ⟨P4.keep hbo, Lk.new _ _ _, X3.out.keep hbo⟩
    have hI := implText_any c ix _ _ _ _ _ _ _ HC.out T5.cl (fun W hW => implClassCheck_any c _ _ _ _ _ W HC.out (HT.out _ (T5.pb.old.trans (hW.mono T5.pb.old.size))) (HE.out _ (T5.pb.old.trans (hW.mono T5.pb.old.size))) (T5.cl.keep hW))
    clear hbo P4 X3
    go_wp2_with fail
    refine hI.mono ?_
    rintro e w4 ⟨r', rfl, hr', hb4⟩
    have T6 := T5.keep hb4
    obtain rfl : r' = r := text_join hr' HR.out
    clear T5 hb4 hI HR hr'
    go_upto_region 10 with fail
    go_cut [30] (fun t wc => t = .bool false ∧ Hid (Below w.heap.size w wc))
    case first =>
      have T7 := T6.drew
      obtain ⟨⟨c0, c1, c2, c3, c4, c5, c6⟩, _⟩ := T7.pb.lk.c7
      obtain ⟨⟨d0, d1, d2, d3, d4, d5, d6⟩, _⟩ := T7.lk.c7
      have hO := T7.pb.old
      have hq := fun (W : World) vp vi vf vm B (hx : At w (arrC (.slice ap lp cp) c.flags c.name c.super (.slice ai li ci) (.slice af lf cf) (.slice am lm cm)) w3.heap.size w2.heap.size (.slice q1 c.pool.length j1) (.slice q2 c.faces.length j2) (.slice q3 c.fields.length j3) (.slice q4 c.methods.length j4) c W) (hy : ClassW W B vp vi vf vm c) => eqClass_same c _ _ _ _ vp vi vf vm _ B W HC.out hx.cl hy
      clear T6
      go_region_held (fun w' => w'.cell? ⟨w.heap.size, 0, none⟩ = some (.slice ap lp cp) ∧ w'.cell? ⟨w.heap.size, 1, none⟩ = some (.int .i64 c.flags) ∧ w'.cell? ⟨w.heap.size, 2, none⟩ = some (.int .i64 c.name) ∧ w'.cell? ⟨w.heap.size, 3, none⟩ = some (.int .i64 c.super) ∧ w'.cell? ⟨w.heap.size, 4, none⟩ = some (.slice ai li ci) ∧ w'.cell? ⟨w.heap.size, 5, none⟩ = some (.slice af lf cf) ∧ w'.cell? ⟨w.heap.size, 6, none⟩ = some (.slice am lm cm) ∧ w'.cell? ⟨w3.heap.size, 0, none⟩ = some (.slice q1 c.pool.length j1) ∧ w'.cell? ⟨w3.heap.size, 1, none⟩ = some (.int .i64 c.flags) ∧ w'.cell? ⟨w3.heap.size, 2, none⟩ = some (.int .i64 c.name) ∧ w'.cell? ⟨w3.heap.size, 3, none⟩ = some (.int .i64 c.super) ∧ w'.cell? ⟨w3.heap.size, 4, none⟩ = some (.slice q2 c.faces.length j2) ∧ w'.cell? ⟨w3.heap.size, 5, none⟩ = some (.slice q3 c.fields.length j3) ∧ w'.cell? ⟨w3.heap.size, 6, none⟩ = some (.slice q4 c.methods.length j4)) (refine ⟨?_, ?_, ?_, ?_, ?_, ?_, ?_, ?_, ?_, ?_, ?_, ?_, ?_, ?_⟩ <;> assumption) (first
        | (go_at_call 11; refine (hto _ (by assumption)).mono ?_; rintro e w8 ⟨vp8, vi8, vf8, vm8, rfl, ho8, hb8⟩; have T8 := At.keep (by assumption) hb8; obtain ⟨⟨e0, e1, e2, e3, e4, e5, e6⟩, _⟩ := T8.pb.lk.c7; obtain ⟨⟨f0, f1, f2, f3, f4, f5, f6⟩, _⟩ := T8.lk.c7)
        | (go_at_call 13; refine (hq _ _ _ _ _ _ (by assumption) (by assumption)).mono ?_; rintro e w9 ⟨rfl, hb9⟩; have T9 := At.keep (by assumption) hb9; obtain ⟨⟨g0, g1, g2, g3, g4, g5, g6⟩, _⟩ := T9.pb.lk.c7; obtain ⟨⟨h0, h1, h2, h3, h4, h5, h6⟩, _⟩ := T9.lk.c7))
      go_wp2_with fail
      go_meet
      case rel => exact ⟨rfl, T9.pb.old⟩
    case rest =>
      obtain ⟨rfl, HO⟩ := hcut
      clear T6
      go_wp2_with fail
      go_ret
      exact ⟨rfl, HO.out⟩

theorem gTab : Tryz.prog.globalNamed "loop.example/stowage/impl.opBehind" = some 1 := by kernel_rfl
theorem gTabType : (Tryz.prog.globals[1]?).map (·.type) = some 299 := by kernel_rfl
theorem cellsT : Tryz.prog.cellsOf 299 = 35 := by kernel_rfl
theorem cellsI : Tryz.prog.cellsOf 3 = 1 := by kernel_rfl
theorem rowed : varsRowed Tryz.prog ["loop.example/stowage/impl.opBehind"] = true := by kernel_rfl
theorem et : Tryz.prog.globalNamed "errors.errorType" = some 0 := by kernel_rfl
theorem rt : (Tryz.prog.cutTypes.find? (·.1 == "internal/reflectlite.rtype")).map (·.2) = some 175 := by kernel_rfl
theorem oneRow : ((List.range 394).filter fun t => Tryz.prog.rowNamed t [101, 114, 114, 111, 114]) = [65] := by kernel_rfl
theorem tsize : Tryz.prog.types.size = 394 := by kernel_rfl

theorem parts {W : World} (h : laidMetH Tryz.prog Rows.fnExactPackTextRow.laid W) : laidMet Tryz.prog [("math/bits.deBruijn32tab", Rows.laid_math_bits_deBruijn32tab), ("math/bits.deBruijn64tab", Rows.laid_math_bits_deBruijn64tab), ("internal/strconv.uint64pow10", Rows.laid_internal_strconv_uint64pow10), ("loop.example/stowage/impl.opBehind", Rows.laid_loop_example_stowage_impl_opBehind)] W ∧ handlesMet Tryz.prog [("errors.errorType", Rows.laid_errors_errorType)] W := h
theorem table {W : World} (h : laidMetH Tryz.prog Rows.fnExactPackTextRow.laid W) : Lib.TabIs Tryz.prog W "loop.example/stowage/impl.opBehind" .i64 tab := by
  obtain ⟨ps, hv, _⟩ := (parts h).1
  obtain ⟨g1, t1, cs1, f1, p1, q1, _, _, _, _, hv, _⟩ := hv
  obtain ⟨g2, t2, cs2, f2, p2, q2, _, _, _, _, hv, _⟩ := hv
  obtain ⟨g3, t3, cs3, f3, p3, q3, _, _, _, _, hv, _⟩ := hv
  obtain ⟨g4, t4, cs4, f4, p4, q4, hg4, ht4, hvar4, hd4, _⟩ := hv
  obtain rfl := Option.some.inj (gTab.symm.trans hg4)
  obtain rfl := Option.some.inj (gTabType.symm.trans ht4)
  have e4 := Lib.cells_of_tab (k := .i64) (zs := tab) Tryz.underlying299 Tryz.underlying3 cellsI cellsT hd4
  show W.var? Tryz.prog _ = _
  rw [hvar4, ← e4]
theorem tabOf {W : World} (h : laidMetH Tryz.prog Rows.fnExactPackTextRow.laid W) : Tab W := by
  have hc : ∀ k, k < 35 → W.cell? ⟨1, k, none⟩ = some (.int .i64 (tab.getD k 0)) := fun k hk => (table h).cell gTab k (by exact hk)
  exact ⟨World.block_lt_of_cell? W _ (hc 0 (by omega)), hc⟩
theorem errOf {W : World} (h : laidMetH Tryz.prog Rows.fnExactPackTextRow.laid W) : ErrW W := by
  obtain ⟨name, u, ty, e1, e2, e3, e4, e5⟩ := (parts h).2 _ (List.mem_singleton.2 rfl)
  have en : name = [101, 114, 114, 111, 114] := (Option.some.inj e1).symm
  subst en
  obtain rfl := Option.some.inj (rt.symm.trans e2)
  have hm : ty ∈ (List.range 394).filter fun t => Tryz.prog.rowNamed t [101, 114, 114, 111, 114] := List.mem_filter.2 ⟨List.mem_range.2 (by rw [← tsize]; exact e3), e4⟩
  rw [oneRow] at hm
  obtain rfl := List.mem_singleton.1 hm
  have hh : typeHandle Tryz.prog 65 = .pointer (some ⟨6, 65, none⟩) := by kernel_rfl
  rw [hh] at e5
  unfold ErrW
  simpa using World.var?_cell et e5 0

theorem contract (H : Type) (enc : TypeId × Value → H) (W : World) (base : Nat) (args : Array Value) (ds gs : List (DataW H)) (before : List MemPlace)
    (hval : ∀ (j : Nat) t v, Tryz.f6.params[j]? = some t → args[j]? = some v → Value.okWide Tryz.prog W .any base t v)
    (hW : DataW.Whole enc Tryz.prog Tryz.f6.params.toList Rows.fnExactPackTextSpec.vars false W args.toList ds gs before) (hL : laidMetH Tryz.prog Rows.fnExactPackTextRow.laid W) :
    Calls Tryz.prog 6 args W fun e W' => ∃ v, e = .returned v ∧ Rows.fnExactPackTextSpec.post enc Tryz.prog Tryz.f6 false true false false W args v W' := by
  have hW' := hW
  obtain ⟨p, q, hA0, hV, rfl, hfz, hnd⟩ := hW
  have hA : DataW.TrodAll enc Tryz.prog W 0 (fun _ => true) true Tryz.f6.params.toList args.toList ds p := hA0
  rw [Tryz.params6] at hA hval
  obtain ⟨v0, vs0, d0, ds0, p0, q0, hargs, rfl, rfl, h0, r0⟩ := trodAll_cons hA
  obtain ⟨v1, vs1, d1, ds1, p1, q1, hargs1, rfl, rfl, h1, r1⟩ := trodAll_cons r0
  obtain ⟨rfl, rfl, rfl⟩ := trodAll_nil r1
  obtain rfl : args = #[v0, v1] := by cases args; simp_all
  obtain ⟨ix, rfl, rfl, rfl, wf1⟩ := open_int Tryz.underlying3 (hval 1 3 v1 rfl rfl) h1
  obtain ⟨cs, rfl, hcs⟩ := okWide_struct Tryz.underlying27 (hval 0 27 v0 rfl rfl)
  have k0 := h0
  have lt0 : ∀ x ∈ p0, x.block < W.heap.size := by obtain ⟨m, hm⟩ := k0; exact DataW.trod_lt m _ _ _ hm
  obtain ⟨c, ap, lp, cp, ai, li, ci, af, lf, cf, am, lm, cm, hl, hC⟩ : ∃ (c : MClass) (ap : Option Addr) (lp cp : Nat) (ai : Option Addr) (li ci : Nat) (af : Option Addr) (lf cf : Nat) (am : Option Addr) (lm cm : Nat), cs.toList = [.slice ap lp cp, .int .i64 c.flags, .int .i64 c.name, .int .i64 c.super, .slice ai li ci, .slice af lf cf, .slice am lm cm] ∧ ArgCl W ap lp ai li af lf am lm c := by
    obtain ⟨fuel, hf⟩ := h0
    exact class_of (by simpa [Value.cells] using hf)
  obtain rfl : cs = #[.slice ap lp cp, .int .i64 c.flags, .int .i64 c.name, .int .i64 c.super, .slice ai li ci, .slice af lf cf, .slice am lm cm] := by cases cs; simp_all
  have hV2 : DataW.TrodVars enc Tryz.prog W (fun _ => true) ["loop.example/stowage/impl.opBehind"] gs q := hV
  obtain ⟨g1, hg1⟩ : ∃ g1, gs = [g1] := by
    obtain ⟨_, _, _, _, d, _, h, _⟩ := trodVars_one hV2
    exact ⟨d, h⟩
  subst hg1
  clear hA0
  refine (walk c ix ap lp cp ai li ci af lf cf am lm cm W (tabOf hL) (errOf hL) hC).mono fun e W' ⟨he, bel⟩ => ?_
  subst he
  exact ⟨_, rfl, _, _, _, [], _, q, hW', trodAll_mk1 (shut_bool Tryz.underlying4 _), (trodAll_cons_mk (Below.trod laidOut (by kernel_rfl) (of_decide_eq_true (by kernel_rfl)) k0 bel lt0) (trodAll_cons_mk (shut_int Tryz.underlying3 wf1) trodAll_mk0)), Below.trodVars laidOut bel rowed hV2, bel.frame _, fun h => by cases h⟩

/- The world of the witness: the settled one, the two variables holding what their initialisers lay. -/
theorem laid_met (os : Os) : laidMetH Tryz.prog Rows.fnExactPackTextRow.laid (({ World.holding Tryz.prog os ⟨#[], #[], []⟩ with heap := (((((World.holding Tryz.prog os ⟨#[], #[], []⟩).heap.modify 3 fun | .cells _ t frozen => .cells (deB32.map (Value.int .u8)).toArray t frozen | o => o).modify 4 fun | .cells _ t frozen => .cells (deB64.map (Value.int .u8)).toArray t frozen | o => o).modify 2 fun | .cells _ t frozen => .cells (pow10L.map (Value.int .u64)).toArray t frozen | o => o).modify 1 fun | .cells _ t frozen => .cells (tab.map (Value.int .i64)).toArray t frozen | o => o).modify 0 fun | .cells _ t frozen => .cells #[.iface 175 (.agg #[.pointer (some ⟨6, 65, none⟩)])] t frozen | o => o } : World).forCall (fun _ _ => 0) ⟨#[], #[.agg #[.slice none 0 0, .int .i64 0, .int .i64 0, .int .i64 0, .slice none 0 0, .slice none 0 0, .slice none 0 0], .int .i64 0], []⟩).memory :=
  laidMetH_of_parts (laidMet_of_run' 8 (by kernel_rfl) (by kernel_rfl)) (by kernel_rfl)
theorem reads (os : Os) {H : Type} (enc : TypeId × Value → H) : ∃ places, DataW.whole enc Tryz.prog (({ World.holding Tryz.prog os ⟨#[], #[], []⟩ with heap := (((((World.holding Tryz.prog os ⟨#[], #[], []⟩).heap.modify 3 fun | .cells _ t frozen => .cells (deB32.map (Value.int .u8)).toArray t frozen | o => o).modify 4 fun | .cells _ t frozen => .cells (deB64.map (Value.int .u8)).toArray t frozen | o => o).modify 2 fun | .cells _ t frozen => .cells (pow10L.map (Value.int .u64)).toArray t frozen | o => o).modify 1 fun | .cells _ t frozen => .cells (tab.map (Value.int .i64)).toArray t frozen | o => o).modify 0 fun | .cells _ t frozen => .cells #[.iface 175 (.agg #[.pointer (some ⟨6, 65, none⟩)])] t frozen | o => o } : World).forCall (fun _ _ => 0) ⟨#[], #[.agg #[.slice none 0 0, .int .i64 0, .int .i64 0, .int .i64 0, .slice none 0 0, .slice none 0 0, .slice none 0 0], .int .i64 0], []⟩).memory Tryz.f6.params.toList Rows.fnExactPackTextSpec.vars false #[Value.agg #[.slice none 0 0, .int .i64 0, .int .i64 0, .int .i64 0, .slice none 0 0, .slice none 0 0, .slice none 0 0], .int .i64 0].toList 8 = some ([.agg [.nil, .lit (.int .i64 0), .lit (.int .i64 0), .lit (.int .i64 0), .nil, .nil, .nil], .lit (.int .i64 0)], [Rows.laid_loop_example_stowage_impl_opBehind], places) :=
  ⟨MemPlace.row ⟨1, 0, none⟩ 35, by kernel_rfl⟩

set_option maxRecDepth 100000 in
theorem lifted (os : Os) (started : os.Started) (H : Type) (enc : TypeId × Value → H) (F : Stop.Interp) :
    ReturnsInHanded {} Tryz.checked os 6 .any ((OpenSpec.ofChange Rows.fnExactPackTextSpec).preRow enc Tryz.prog Tryz.f6 Rows.fnExactPackTextRow.domain false Rows.fnExactPackTextRow.laid) (((OpenSpec.ofChange Rows.fnExactPackTextSpec).at F).post enc Tryz.prog Tryz.f6 false true false false) := by
  obtain ⟨places, hx⟩ := reads os enc
  refine returnsInHanded_of_row (C := Tryz.checked) (s := OpenSpec.ofChange Rows.fnExactPackTextSpec) own started (by kernel_rfl) Tryz.func6
    (witness_row_at (enc := enc) (C := Tryz.checked) false ({ World.holding Tryz.prog os ⟨#[], #[], []⟩ with heap := (((((World.holding Tryz.prog os ⟨#[], #[], []⟩).heap.modify 3 fun | .cells _ t frozen => .cells (deB32.map (Value.int .u8)).toArray t frozen | o => o).modify 4 fun | .cells _ t frozen => .cells (deB64.map (Value.int .u8)).toArray t frozen | o => o).modify 2 fun | .cells _ t frozen => .cells (pow10L.map (Value.int .u64)).toArray t frozen | o => o).modify 1 fun | .cells _ t frozen => .cells (tab.map (Value.int .i64)).toArray t frozen | o => o).modify 0 fun | .cells _ t frozen => .cells #[.iface 175 (.agg #[.pointer (some ⟨6, 65, none⟩)])] t frozen | o => o }) #[.agg #[.slice none 0 0, .int .i64 0, .int .i64 0, .int .i64 0, .slice none 0 0, .slice none 0 0, .slice none 0 0], .int .i64 0] rfl (by kernel_rfl) (by kernel_rfl) (by kernel_rfl)
      (OpenSpec.preRow_of_cond 8 hx (by kernel_rfl) (fun k hk => by cases hk) (by kernel_rfl) (laid_met os))) ?_
  intro W base args ds gs before hval hW _ _ _ hL _ _
  exact contract H enc W base args ds gs before hval hW hL

/- The closed facts of the row, each by itself. -/
theorem k00 : Rows.fnExactPackTextRow.wf (OpenSpec.ofChange (OpenSpec.ofChange Rows.fnExactPackTextSpec).bare) = true := by kernel_rfl
theorem k01 : laidOutB Tryz.prog = true := by kernel_rfl
theorem k02 : mapsRowed Tryz.prog = true := by kernel_rfl
theorem k03 : Tryz.f6.params.all (Tryz.prog.readableRec ·) = true := by kernel_rfl
theorem k04 : namedTie Tryz.prog Rows.fnExactPackTextRow.named (OpenSpec.ofChange Rows.fnExactPackTextSpec).bare.vars = true := by kernel_rfl
theorem k05 : (Rows.fnExactPackTextRow.stops == []) = true := by kernel_rfl
theorem k06 : (Tryz.prog.stops == []) = true := by kernel_rfl
theorem k07 : (Rows.fnExactPackTextRow.knobs == []) = true := by kernel_rfl
theorem k08 : (Tryz.prog.stopKnobs == []) = true := by kernel_rfl
theorem k09 : (Rows.fnExactPackTextRow.inPlace == Tryz.prog.inPlace 6) = true := by kernel_rfl
theorem k10 : (Rows.fnExactPackTextRow.unfollowed == Tryz.prog.unfollowed 6) = true := by kernel_rfl
theorem k11 : (Rows.fnExactPackTextRow.recurses == Tryz.prog.recurses 6) = true := by kernel_rfl
theorem k12 : (Rows.fnExactPackTextRow.named == Tryz.prog.varsNamed 6) = true := by kernel_rfl
theorem k13 : (Rows.fnExactPackTextRow.maps == (Tryz.f6.params.toList ++ (OpenSpec.ofChange Rows.fnExactPackTextSpec).bare.plain.varTypes Tryz.prog).any (Tryz.prog.mapsRec ·)) = true := by kernel_rfl
theorem k14 : (Rows.fnExactPackTextRow.ifaces == (Tryz.f6.params.toList ++ (OpenSpec.ofChange Rows.fnExactPackTextSpec).bare.plain.varTypes Tryz.prog).any (Tryz.prog.ifacesRec ·)) = true := by kernel_rfl
theorem k15 : (Rows.fnExactPackTextRow.mapsOut == Tryz.prog.mapsAmong Tryz.f6.resultTypes.toList) = true := by kernel_rfl
theorem k16 : (Rows.fnExactPackTextRow.loops == (Tryz.f6.params.toList ++ (OpenSpec.ofChange Rows.fnExactPackTextSpec).bare.plain.varTypes Tryz.prog).any (Tryz.prog.loopsFrom ·)) = true := by kernel_rfl
theorem k17 : (Rows.fnExactPackTextRow.wideKeys == (Tryz.f6.params.toList ++ (OpenSpec.ofChange Rows.fnExactPackTextSpec).bare.plain.varTypes Tryz.prog ++ Tryz.f6.resultTypes.toList).any (Tryz.prog.wideKeysFrom ·)) = true := by kernel_rfl
theorem k18 : (OpenSpec.ofChange Rows.fnExactPackTextSpec).bare.vars.all (Tryz.prog.varReadable ·) = true := by kernel_rfl
theorem k19 : Tryz.f6.resultTypes.all (fun t => Tryz.prog.readableRec t && decide (t < Tryz.prog.types.size)) = true := by kernel_rfl
theorem k20 : (Rows.fnExactPackTextRow.ifacesOut == Tryz.f6.resultTypes.toList.any (Tryz.prog.ifacesRec ·)) = true := by kernel_rfl
theorem k21 : (Rows.fnExactPackTextRow.loopsOut == Tryz.f6.resultTypes.toList.any (Tryz.prog.loopsFrom ·)) = true := by kernel_rfl
theorem k22 : (Rows.fnExactPackTextRow.plainKeys == Tryz.prog.plainKeys) = true := by kernel_rfl
theorem k23 : Rows.fnExactPackTextRow.shortTexts.isNone = true := by kernel_rfl
theorem k24 : Tryz.prog.stopsHeard = true := by kernel_rfl
theorem k25 : Tryz.prog.mayEnter = true := by kernel_rfl
theorem k26 : (Rows.fnExactPackTextRow.lifted == Tryz.prog.liftsFinal) = true := by kernel_rfl
theorem k27 : (Tryz.prog.make == some Rows.fnExactPackTextRow.make) = true := by kernel_rfl
theorem k28 : (Rows.fnExactPackTextRow.kinds == (if Rows.fnExactPackTextRow.domain.isEmpty then [] else Tryz.f6.params.toList.map fun t => match Tryz.prog.underlying t with | some (.int k) => some k | _ => none)) = true := by kernel_rfl
theorem k29 : (Rows.fnExactPackTextRow.pinned == Rows.fnExactPackTextRow.pinnedBy) = true := by kernel_rfl
theorem k30 : (Rows.fnExactPackTextRow.veiled == (Tryz.f6.params.toList ++ (OpenSpec.ofChange Rows.fnExactPackTextSpec).bare.plain.varTypes Tryz.prog ++ Tryz.f6.resultTypes.toList).any (Tryz.prog.veiledRec ·)) = true := by kernel_rfl
theorem k31 : Rows.fnExactPackTextRow.veiledFits Tryz.prog Tryz.f6.params.toList (Tryz.f6.params.toList ++ (OpenSpec.ofChange Rows.fnExactPackTextSpec).bare.plain.varTypes Tryz.prog ++ Tryz.f6.resultTypes.toList) = true := by kernel_rfl
theorem closed : joinedFacts Tryz.prog 6 Tryz.f6 (OpenSpec.ofChange Rows.fnExactPackTextSpec).bare Rows.fnExactPackTextRow = true :=
  joined_of k00 k01 k02 k03 k04 k05 k06 k07 k08 k09 k10 k11 k12 k13 k14 k15 k16 k17 k18 k19 k20 k21 k22 k23 k24 k25 k26 k27 k28 k29 k30 k31

theorem said : Rows.FnExactPackTextSaid :=
  OpenClaim.holds_of_cond 6 Tryz.f6 rfl rfl rfl rfl rfl rfl rfl ⟨rfl, rfl, rfl, rfl, rfl⟩ rfl rfl rfl rfl rfl (by as_aux_lemma => kernel_rfl) Tryz.func6 closed
    (of_decide_eq_true (by kernel_rfl)) (by unfold Func.isWrapper; first | (rw [if_pos (by decide +kernel)]; kernel_rfl) | (rw [if_neg (by decide +kernel)]; exact ⟨rfl, rfl⟩))
    (fun os started H enc _ F => by rw [OpenClaim.pre_eq_preRow]; exact lifted os started H enc F)

theorem plain (f : FuncId) (fn : Func) (hf : Tryz.pinned.checked.prog.funcNamed "loop.example/stowage/laws.FnExactPackText" = some f) (hfn : Tryz.pinned.checked.prog.funcs[f]? = some fn) :
    true = Tryz.pinned.checked.prog.looks [] ∧ ∀ (j : Nat) t, fn.params[j]? = some t → Tryz.pinned.checked.prog.wantsStandIn t = false := by
  obtain rfl : f = 6 := Option.some.inj ((show Tryz.prog.funcNamed "loop.example/stowage/laws.FnExactPackText" = some 6 by kernel_rfl).symm.trans hf) |>.symm
  obtain rfl : fn = Tryz.f6 := (Option.some.inj (Tryz.func6.symm.trans hfn)).symm
  refine ⟨by kernel_rfl, fun j t ht => ?_⟩
  rw [Tryz.params6] at ht
  have h2 : t = 27 ∨ t = 3 := by simpa using Array.mem_of_getElem? ht
  rcases h2 with rfl | rfl
  · exact (show Tryz.prog.wantsStandIn 27 = false by kernel_rfl)
  · exact (show Tryz.prog.wantsStandIn 3 = false by kernel_rfl)

theorem card : Rows.FnExactPackTextCardSaid :=
  Claim7.holds_tied_plain_at .later [] _ _ _ _ said (fun _ h => by cases h) (by kernel_rfl) (fun _ h => by cases h) fnExactPackText_row_tie rfl ⟨rfl, rfl⟩ (by kernel_rfl) rfl plain (by kernel_rfl)

end Go.Proofs.YtadgoaogkkffmaaGreatDoor.fnExactPackText
namespace Go.Proofs.YtadgoaogkkffmaaGreatDoor
theorem fnExactPackTextHolds : Rows.FnExactPackTextCardSaid := fnExactPackText.card
end Go.Proofs.YtadgoaogkkffmaaGreatDoor
