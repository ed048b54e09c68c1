/- Proved: the law FnExactFilePut returns true at every class and leaves its argument as it was: FilePut of the program answers as the specification's, at every argument, and writes into none. No condition. -/
import Derived.Test.YtnejkkaicnbkoaaRows
import Derived.Test.YtnejkkaicnbkoaaToClass
import Derived.Test.YtnejkkaicnbkoaaArgClass
import Derived.Test.YtnejkkaicnbkoaaWrPut
import Derived.Deep.Slices
import Derived.Deep.Strs
import Derived.Lib.SmallJoins
import Derived.WalkKit
import Derived.ProofKit
import Derived.OpenShut
import Derived.ShutString
namespace Go.Proofs.Ytnejkkaicnbkoaa.fnExactFilePut
open Go.ChangeShapes Go.WideShapes Go.ChangeAt Go.RowKit
open Go.ChangeMaps (open_string shut_string)
set_option linter.unusedVariables false
set_option maxHeartbeats 2000000
set_option maxRecDepth 20000

theorem own : ownKnob Try.prog.godebug = none := by kernel_rfl
theorem laidOut : laidOutB Try.prog = true := by kernel_rfl

/-- the law's argument in its block, and the copy that is handed to the program in block C -/
structure At (w : World) (cs : Array Value) (C B : Nat) (vp vi vf vm : Value) (c : MClass) (W : World) : Prop where
  pb : PB w cs 37 W
  lk : Lk W C (arrC vp c.flags c.name c.super vi vf vm) 27
  cl : ClassW W B vp vi vf vm c
theorem At.keep {w : World} {cs : Array Value} {C B : Nat} {vp vi vf vm : Value} {c : MClass} {W W' : World} (h : At w cs C B vp vi vf vm c W) (hb : Below W.heap.size W W') : At w cs C B vp vi vf vm c W' := ⟨h.pb.keep hb, h.lk.keep hb, h.cl.keep hb⟩
theorem At.drew {w : World} {cs : Array Value} {C B : Nat} {vp vi vf vm : Value} {c : MClass} {W : World} (h : At w cs C B vp vi vf vm c W) : At w cs C B vp vi vf vm c W.drew := h.keep (Below.drew (Below.refl _ _))

theorem walk (c : MClass) (ap : Option Addr) (lp cp : Nat) (ai : Option Addr) (li ci : Nat) (af : Option Addr) (lf cf : Nat) (am : Option Addr) (lm cm : Nat) (w : World) (hA : ArgCl w ap lp ai li af lf am lm c) :
    Calls Try.prog 4 #[.agg #[.slice ap lp cp, .int .i64 c.flags, .int .i64 c.name, .int .i64 c.super, .slice ai li ci, .slice af lf cf, .slice am lm cm]] w fun e w' => e = .returned (.bool true) ∧ Below w.heap.size w w' := by
  have P0 := PB.start w (arrC (.slice ap lp cp) c.flags c.name c.super (.slice ai li ci) (.slice af lf cf) (.slice am lm cm)) 37
  have hsz := szClass_any c ap lp cp ai li ci af lf cf am lm cm _ (hA.keep P0.old)
  have HA := hid hA
  clear hA
  go_enter Try.func4, Try.ntmps4
  go_wp2_with fail
  refine hsz.mono ?_
  rintro e w0 ⟨n, rfl, hn, hb0⟩
  have P1 := P0.keep hb0
  clear P0 hb0 hsz
  by_cases hneg : n < 0
  · have HO := hid P1.old
    clear hn P1
    go_wp2
    go_ret
    exact ⟨rfl, HO.out⟩
  · have hc : c.few := hn.resolve_left hneg
    have HC := hid hc
    have hto := fun W (hW : Below w.heap.size w W) => toClass_any c ap lp cp ai li ci af lf cf am lm cm W (HA.out.keep hW) hc
    obtain ⟨⟨c0, c1, c2, c3, c4, c5, c6⟩, _⟩ := P1.lk.c7
    clear hn hc
    go_wp2_with fail
    refine (hto _ P1.old).mono ?_
    rintro e w1 ⟨vp1, vi1, vf1, vm1, rfl, ho1, hb1⟩
    have P2 := P1.keep hb1
    have hS := specFilePut_any c _ _ _ _ _ w1 HC.out ho1
    clear P1 hb1 ho1 c0 c1 c2 c3 c4 c5 c6
    go_wp2_with fail
    refine hS.mono ?_
    rintro e w2 ⟨r, rfl, hr, hb2⟩
    have P3 := P2.keep hb2
    have HR := hid hr
    obtain ⟨⟨c0, c1, c2, c3, c4, c5, c6⟩, _⟩ := P3.lk.c7
    clear P2 hb2 hr hS
    go_wp2_with fail
    refine (hto _ P3.old).mono ?_
    rintro e w3 ⟨vp3, vi3, vf3, vm3, rfl, ho3, hb3⟩
    have P4 := P3.keep hb3
    obtain ⟨q1, j1, hv1⟩ := own_len ho3.p
    obtain ⟨q2, j2, hv2⟩ := own_len ho3.i
    obtain ⟨q3, j3, hv3⟩ := own_len ho3.f
    obtain ⟨q4, j4, hv4⟩ := ho3.m.len
    subst hv1 hv2 hv3 hv4
    have X3 := hid ho3
    clear P3 hb3 ho3 c0 c1 c2 c3 c4 c5 c6
    have hbo := (Below.refl w3.heap.size w3).alloc (Nat.le_refl _) (.cells (arrC (.slice q1 c.pool.length j1) c.flags c.name c.super (.slice q2 c.faces.length j2) (.slice q3 c.fields.length j3) (.slice q4 c.methods.length j4)) 27)
    have T5 : At w (arrC (.slice ap lp cp) c.flags c.name c.super (.slice ai li ci) (.slice af lf cf) (.slice am lm cm)) w3.heap.size w2.heap.size (.slice q1 c.pool.length j1) (.slice q2 c.faces.length j2) (.slice q3 c.fields.length j3) (.slice q4 c.methods.length j4) c (w3.alloc (.cells (arrC (.slice q1 c.pool.length j1) c.flags c.name c.super (.slice q2 c.faces.length j2) (.slice q3 c.fields.length j3) (.slice q4 c.methods.length j4)) 27)) := ⟨P4.keep hbo, Lk.new _ _ _, X3.out.keep hbo⟩
    have hI := implFilePut_any c _ _ _ _ _ _ HC.out T5.cl
    clear hbo P4 X3
    go_wp2_with fail
    refine hI.mono ?_
    rintro e w4 ⟨r', rfl, hr', hb4⟩
    have T6 := T5.keep hb4
    obtain rfl : r = r' := HR.out.one hr'
    clear T5 hb4 hI HR hr'
    go_upto_region 10 with fail
    go_cut [26] (fun t wc => t = .bool false ∧ Hid (Below w.heap.size w wc))
    case first =>
      have T7 := T6.drew
      obtain ⟨⟨c0, c1, c2, c3, c4, c5, c6⟩, _⟩ := T7.pb.lk.c7
      obtain ⟨⟨d0, d1, d2, d3, d4, d5, d6⟩, _⟩ := T7.lk.c7
      have hO := T7.pb.old
      have hq := fun (W : World) vp vi vf vm B (hx : At w (arrC (.slice ap lp cp) c.flags c.name c.super (.slice ai li ci) (.slice af lf cf) (.slice am lm cm)) w3.heap.size w2.heap.size (.slice q1 c.pool.length j1) (.slice q2 c.faces.length j2) (.slice q3 c.fields.length j3) (.slice q4 c.methods.length j4) c W) (hy : ClassW W B vp vi vf vm c) => eqClass_same c _ _ _ _ vp vi vf vm _ B W HC.out hx.cl hy
      clear T6
      go_region_held (fun w' => w'.cell? ⟨w.heap.size, 0, none⟩ = some (.slice ap lp cp) ∧ w'.cell? ⟨w.heap.size, 1, none⟩ = some (.int .i64 c.flags) ∧ w'.cell? ⟨w.heap.size, 2, none⟩ = some (.int .i64 c.name) ∧ w'.cell? ⟨w.heap.size, 3, none⟩ = some (.int .i64 c.super) ∧ w'.cell? ⟨w.heap.size, 4, none⟩ = some (.slice ai li ci) ∧ w'.cell? ⟨w.heap.size, 5, none⟩ = some (.slice af lf cf) ∧ w'.cell? ⟨w.heap.size, 6, none⟩ = some (.slice am lm cm) ∧ w'.cell? ⟨w3.heap.size, 0, none⟩ = some (.slice q1 c.pool.length j1) ∧ w'.cell? ⟨w3.heap.size, 1, none⟩ = some (.int .i64 c.flags) ∧ w'.cell? ⟨w3.heap.size, 2, none⟩ = some (.int .i64 c.name) ∧ w'.cell? ⟨w3.heap.size, 3, none⟩ = some (.int .i64 c.super) ∧ w'.cell? ⟨w3.heap.size, 4, none⟩ = some (.slice q2 c.faces.length j2) ∧ w'.cell? ⟨w3.heap.size, 5, none⟩ = some (.slice q3 c.fields.length j3) ∧ w'.cell? ⟨w3.heap.size, 6, none⟩ = some (.slice q4 c.methods.length j4)) (refine ⟨?_, ?_, ?_, ?_, ?_, ?_, ?_, ?_, ?_, ?_, ?_, ?_, ?_, ?_⟩ <;> assumption) (first
        | (go_at_call 12; refine (hto _ (by assumption)).mono ?_; rintro e w8 ⟨vp8, vi8, vf8, vm8, rfl, ho8, hb8⟩; have T8 := At.keep (by assumption) hb8; obtain ⟨⟨e0, e1, e2, e3, e4, e5, e6⟩, _⟩ := T8.pb.lk.c7; obtain ⟨⟨f0, f1, f2, f3, f4, f5, f6⟩, _⟩ := T8.lk.c7)
        | (go_at_call 7; refine (hq _ _ _ _ _ _ (by assumption) (by assumption)).mono ?_; rintro e w9 ⟨rfl, hb9⟩; have T9 := At.keep (by assumption) hb9; obtain ⟨⟨g0, g1, g2, g3, g4, g5, g6⟩, _⟩ := T9.pb.lk.c7; obtain ⟨⟨h0, h1, h2, h3, h4, h5, h6⟩, _⟩ := T9.lk.c7))
      go_wp2_with fail
      go_meet
      case rel => exact ⟨rfl, T9.pb.old⟩
    case rest =>
      obtain ⟨rfl, HO⟩ := hcut
      clear T6
      go_wp2_with fail
      go_ret
      exact ⟨rfl, HO.out⟩

set_option maxRecDepth 100000 in
theorem lifted (os : Os) (started : os.Started) (H : Type) (enc : TypeId × Value → H) :
    ReturnsInHanded {} Try.checked os 4 .any (Rows.fnExactFilePutSpec.pre6 enc Try.prog Try.f4 Rows.fnExactFilePutRow.domain false) (Rows.fnExactFilePutSpec.post enc Try.prog Try.f4 false true false false) := by
  refine returnsInHanded_of_change (C := Try.checked) own started (by kernel_rfl) Try.func4
    (ChangeSpec.witness6 (enc := enc) (C := Try.checked) false ⟨#[], #[.agg #[.slice none 0 0, .int .i64 0, .int .i64 0, .int .i64 0, .slice none 0 0, .slice none 0 0, .slice none 0 0]], []⟩ 8 (by kernel_rfl) (by kernel_rfl) (by kernel_rfl) (by kernel_rfl)) ?_
  intro W base args ds gs before hval0 hW hcnd _
  have hval : ∀ (j : Nat) t v, Try.f4.params[j]? = some t → args[j]? = some v → Value.okWide Try.prog W .any base t v := hval0
  have hW' := hW
  obtain ⟨p, q, hA0, hV, rfl, hfz, hnd⟩ := hW
  have hA : DataW.TrodAll enc Try.prog W 0 (fun _ => true) true Try.f4.params.toList args.toList ds p := hA0
  rw [Try.params4] at hA hval
  obtain ⟨v0, vs0, d0, ds0, p0, q0, hargs, rfl, rfl, h0, r0⟩ := trodAll_cons hA
  obtain ⟨rfl, rfl, rfl⟩ := trodAll_nil r0
  obtain rfl : args = #[v0] := by cases args; simp_all
  obtain ⟨rfl, rfl⟩ := trodVars_none hV
  obtain ⟨cs, rfl, hcs⟩ := okWide_struct Try.underlying37 (hval 0 37 v0 rfl rfl)
  have k0 := h0
  have lt0 : ∀ x ∈ p0, x.block < W.heap.size := by obtain ⟨m, hm⟩ := k0; exact DataW.trod_lt m _ _ _ hm
  obtain ⟨c, ap, lp, cp, ai, li, ci, af, lf, cf, am, lm, cm, hl, hC⟩ : ∃ (c : MClass) (ap : Option Addr) (lp cp : Nat) (ai : Option Addr) (li ci : Nat) (af : Option Addr) (lf cf : Nat) (am : Option Addr) (lm cm : Nat), cs.toList = [.slice ap lp cp, .int .i64 c.flags, .int .i64 c.name, .int .i64 c.super, .slice ai li ci, .slice af lf cf, .slice am lm cm] ∧ ArgCl W ap lp ai li af lf am lm c := by
    obtain ⟨fuel, hf⟩ := h0
    exact class_of (by simpa [Value.cells] using hf)
  obtain rfl : cs = #[.slice ap lp cp, .int .i64 c.flags, .int .i64 c.name, .int .i64 c.super, .slice ai li ci, .slice af lf cf, .slice am lm cm] := by cases cs; simp_all
  clear hA0 hval0
  refine (walk c ap lp cp ai li ci af lf cf am lm cm W hC).mono fun e W' ⟨he, bel⟩ => ?_
  subst he
  exact ⟨_, rfl, _, _, _, [], _, [], hW', trodAll_mk1 (shut_bool Try.underlying4 _), (trodAll_cons_mk (Below.trod laidOut (by kernel_rfl) (of_decide_eq_true (by kernel_rfl)) k0 bel lt0) trodAll_mk0), rfl, bel.frame _, fun h => by cases h⟩

theorem over : Rows.fnExactFilePutRow.holds Try.pinned (OpenSpec.ofChange Rows.fnExactFilePutSpec) :=
  OpenClaim.holds_of_wide 4 Try.f4 rfl rfl rfl rfl rfl rfl rfl ⟨rfl, rfl, rfl, rfl, rfl⟩ rfl rfl rfl rfl rfl (by kernel_rfl) Try.func4 (by kernel_rfl)
    (of_decide_eq_true (by kernel_rfl)) (by unfold Func.isWrapper; first | (rw [if_pos (by decide +kernel)]; kernel_rfl) | (rw [if_neg (by decide +kernel)]; exact ⟨rfl, rfl⟩))
    (fun os started H enc _ => lifted os started H enc)

end Go.Proofs.Ytnejkkaicnbkoaa.fnExactFilePut
namespace Go.Proofs.Ytnejkkaicnbkoaa
theorem fnExactFilePutHolds : Rows.FnExactFilePutSaid := fnExactFilePut.over
end Go.Proofs.Ytnejkkaicnbkoaa
