/- Proved: the law FnExactStartOk returns true at every start and leaves its argument as it was: StartOk of the program answers as the specification's, at every argument, and writes into none. No condition. -/
import Derived.Test.YtckloemgjeagmaaRows
import Derived.Test.YtckloemgjeagmaaStSpecB
import Derived.Test.YtckloemgjeagmaaStArg
import Derived.Deep.Slices
import Derived.Deep.Strs
import Derived.Lib.SmallJoins
import Derived.WalkKit
import Derived.ProofKit
import Derived.OpenShut
import Derived.ShutString
namespace Go.Proofs.Ytckloemgjeagmaa.fnExactStartOk
open Go.ChangeShapes Go.WideShapes Go.ChangeAt Go.RowKit
open Go.ChangeMaps (open_string shut_string)
set_option linter.unusedVariables false
set_option maxHeartbeats 2000000
set_option maxRecDepth 20000

theorem own : ownKnob Try.prog.godebug = none := by kernel_rfl
theorem laidOut : laidOutB Try.prog = true := by kernel_rfl

/-- the law's argument in its block -/
structure PA (w : World) (a : Array Value) (W : World) : Prop where
  b : Below w.heap.size w W
  k : Lk W w.heap.size a 25
theorem PA.keep {w W W' : World} {a : Array Value} (h : PA w a W) (hb : Below W.heap.size W W') : PA w a W' := ⟨h.b.trans (hb.mono h.b.size), h.k.keep hb⟩
theorem PA.start (w : World) (a : Array Value) : PA w a (w.alloc (.cells a 25)) := ⟨(Below.refl _ _).alloc (Nat.le_refl _) _, Lk.new _ _ _⟩
/-- the law's argument in its block, and the copy that is handed to the program in block C -/
structure At (w : World) (a b : Array Value) (C B : Nat) (vl vp : Value) (s : MStart) (W : World) : Prop where
  pb : PA w a W
  lk : Lk W C b 31
  st : StartW W B vl vp s
theorem At.keep {w : World} {a b : Array Value} {C B : Nat} {vl vp : Value} {s : MStart} {W W' : World} (h : At w a b C B vl vp s W) (hb : Below W.heap.size W W') : At w a b C B vl vp s W' := ⟨h.pb.keep hb, h.lk.keep hb, h.st.keep hb⟩

theorem walk (s : MStart) (al : Option Addr) (ll cl : Nat) (ap : Option Addr) (lp cp : Nat) (w : World) (hA : ArgS w al ll ap lp s) :
    Calls Try.prog 3 #[.agg #[.slice al ll cl, .int .i64 s.loader, .string s.name, .int .i64 s.fuel, .int .i64 s.room, .bool s.prove, .slice ap lp cp]] w fun e w' => e = .returned (.bool true) ∧ Below w.heap.size w w' := by
  have P0 := PA.start w (arrS (.slice al ll cl) s.loader s.name s.fuel s.room s.prove (.slice ap lp cp))
  have hsz := szStart_any s al ll cl ap lp cp _ (hA.keep P0.b)
  have HA := hid hA
  clear hA
  go_enter Try.func3, Try.ntmps3
  go_wp2_with fail
  refine hsz.mono ?_
  rintro e w0 ⟨n, rfl, hn, hb0⟩
  have P1 := P0.keep hb0
  clear P0 hb0 hsz
  by_cases hneg : n < 0
  · have HO := hid P1.b
    clear hn P1
    go_wp2
    go_ret
    exact ⟨rfl, HO.out⟩
  · have hc : s.few := hn.resolve_left hneg
    have HC := hid hc
    have hto := fun W (hW : Below w.heap.size w W) => toStart_any s al ll cl ap lp cp W (HA.out.keep hW) hc
    obtain ⟨⟨c0, c1, c2, c3, c4, c5, c6⟩, _⟩ := P1.k.c7s
    clear hn hc
    go_wp2_with fail
    refine (hto _ P1.b).mono ?_
    rintro e w1 ⟨vl1, vp1, rfl, ho1, hb1⟩
    have P2 := P1.keep hb1
    have hS := specStartOk_any s _ _ _ w1 HC.out ho1
    clear P1 hb1 ho1 c0 c1 c2 c3 c4 c5 c6
    go_wp2_with fail
    refine hS.mono ?_
    rintro e w2 ⟨r, rfl, hr, hb2⟩
    have P3 := P2.keep hb2
    have HR := hid hr
    obtain ⟨⟨c0, c1, c2, c3, c4, c5, c6⟩, _⟩ := P3.k.c7s
    clear P2 hb2 hr hS
    go_wp2_with fail
    refine (hto _ P3.b).mono ?_
    rintro e w3 ⟨vl3, vp3, rfl, ho3, hb3⟩
    have P4 := P3.keep hb3
    obtain ⟨q1, j1, hv1⟩ := ho3.l.len
    obtain ⟨q2, j2, hv2⟩ := own_len ho3.p
    subst hv1 hv2
    have X3 := hid ho3
    clear P3 hb3 ho3 c0 c1 c2 c3 c4 c5 c6
    have hbo := (Below.refl w3.heap.size w3).alloc (Nat.le_refl _) (.cells (arrS (.slice q1 s.loaders.length j1) s.loader s.name s.fuel s.room s.prove (.slice q2 s.picks.length j2)) 31)
    have T5 : At w (arrS (.slice al ll cl) s.loader s.name s.fuel s.room s.prove (.slice ap lp cp)) (arrS (.slice q1 s.loaders.length j1) s.loader s.name s.fuel s.room s.prove (.slice q2 s.picks.length j2)) w3.heap.size w2.heap.size (.slice q1 s.loaders.length j1) (.slice q2 s.picks.length j2) s (w3.alloc (.cells (arrS (.slice q1 s.loaders.length j1) s.loader s.name s.fuel s.room s.prove (.slice q2 s.picks.length j2)) 31)) := ⟨P4.keep hbo, Lk.new _ _ _, X3.out.keep hbo⟩
    have hI := implStartOk_any s _ _ _ _ HC.out T5.st
    clear hbo P4 X3
    go_wp2_with fail
    refine hI.mono ?_
    rintro e w4 ⟨r', rfl, hr', hb4⟩
    have T6 := T5.keep hb4
    obtain rfl : r = r' := by rw [Bool.eq_iff_iff, HR.out, hr']
    clear T5 hb4 hI HR hr'
    go_upto_region 10 with fail
    go_cut [26] (fun t wc => t = .bool false ∧ Hid (Below w.heap.size w wc))
    case first =>
      have T7 := T6.keep (show Below w4.heap.size w4 w4.drew from (Below.refl _ _).drew)
      obtain ⟨⟨c0, c1, c2, c3, c4, c5, c6⟩, _⟩ := T7.pb.k.c7s
      obtain ⟨⟨d0, d1, d2, d3, d4, d5, d6⟩, _⟩ := T7.lk.c7s
      have hO := T7.pb.b
      have hq := fun (W : World) vl vp B (hx : At w (arrS (.slice al ll cl) s.loader s.name s.fuel s.room s.prove (.slice ap lp cp)) (arrS (.slice q1 s.loaders.length j1) s.loader s.name s.fuel s.room s.prove (.slice q2 s.picks.length j2)) w3.heap.size w2.heap.size (.slice q1 s.loaders.length j1) (.slice q2 s.picks.length j2) s W) (hy : StartW W B vl vp s) => eqStart_same s _ _ vl vp _ B W HC.out hx.st hy
      clear T6
      go_region_held (fun w' => w'.cell? ⟨w.heap.size, 0, none⟩ = some (.slice al ll cl) ∧ w'.cell? ⟨w.heap.size, 1, none⟩ = some (.int .i64 s.loader) ∧ w'.cell? ⟨w.heap.size, 2, none⟩ = some (.string s.name) ∧ w'.cell? ⟨w.heap.size, 3, none⟩ = some (.int .i64 s.fuel) ∧ w'.cell? ⟨w.heap.size, 4, none⟩ = some (.int .i64 s.room) ∧ w'.cell? ⟨w.heap.size, 5, none⟩ = some (.bool s.prove) ∧ w'.cell? ⟨w.heap.size, 6, none⟩ = some (.slice ap lp cp) ∧ w'.cell? ⟨w3.heap.size, 0, none⟩ = some (.slice q1 s.loaders.length j1) ∧ w'.cell? ⟨w3.heap.size, 1, none⟩ = some (.int .i64 s.loader) ∧ w'.cell? ⟨w3.heap.size, 2, none⟩ = some (.string s.name) ∧ w'.cell? ⟨w3.heap.size, 3, none⟩ = some (.int .i64 s.fuel) ∧ w'.cell? ⟨w3.heap.size, 4, none⟩ = some (.int .i64 s.room) ∧ w'.cell? ⟨w3.heap.size, 5, none⟩ = some (.bool s.prove) ∧ w'.cell? ⟨w3.heap.size, 6, none⟩ = some (.slice q2 s.picks.length j2)) (refine ⟨?_, ?_, ?_, ?_, ?_, ?_, ?_, ?_, ?_, ?_, ?_, ?_, ?_, ?_⟩ <;> assumption) (first
        | (go_at_call 6; refine (hto _ (by assumption)).mono ?_; rintro e w8 ⟨vl8, vp8, rfl, ho8, hb8⟩; have T8 := At.keep (by assumption) hb8; obtain ⟨⟨e0, e1, e2, e3, e4, e5, e6⟩, _⟩ := T8.pb.k.c7s; obtain ⟨⟨f0, f1, f2, f3, f4, f5, f6⟩, _⟩ := T8.lk.c7s)
        | (go_at_call 8; refine (hq _ _ _ _ (by assumption) (by assumption)).mono ?_; rintro e w9 ⟨rfl, hb9⟩; have T9 := At.keep (by assumption) hb9; obtain ⟨⟨g0, g1, g2, g3, g4, g5, g6⟩, _⟩ := T9.pb.k.c7s; obtain ⟨⟨h0, h1, h2, h3, h4, h5, h6⟩, _⟩ := T9.lk.c7s))
      go_wp2_with fail
      go_meet
      case rel => exact ⟨rfl, T9.pb.b⟩
    case rest =>
      obtain ⟨rfl, HO⟩ := hcut
      clear T6
      go_wp2_with fail
      go_ret
      exact ⟨rfl, HO.out⟩

set_option maxRecDepth 100000 in
theorem lifted (os : Os) (started : os.Started) (H : Type) (enc : TypeId × Value → H) :
    ReturnsInHanded {} Try.checked os 3 .any (Rows.fnExactStartOkSpec.pre6 enc Try.prog Try.f3 Rows.fnExactStartOkRow.domain false) (Rows.fnExactStartOkSpec.post enc Try.prog Try.f3 false true false false) := by
  refine returnsInHanded_of_change (C := Try.checked) own started (by kernel_rfl) Try.func3
    (ChangeSpec.witness6 (enc := enc) (C := Try.checked) false ⟨#[], #[.agg #[.slice none 0 0, .int .i64 0, .string ⟨#[]⟩, .int .i64 0, .int .i64 0, .bool false, .slice none 0 0]], []⟩ 8 (by kernel_rfl) (by kernel_rfl) (by kernel_rfl) (by kernel_rfl)) ?_
  intro W base args ds gs before hval0 hW hcnd _
  have hval : ∀ (j : Nat) t v, Try.f3.params[j]? = some t → args[j]? = some v → Value.okWide Try.prog W .any base t v := hval0
  have hW' := hW
  obtain ⟨p, q, hA0, hV, rfl, hfz, hnd⟩ := hW
  have hA : DataW.TrodAll enc Try.prog W 0 (fun _ => true) true Try.f3.params.toList args.toList ds p := hA0
  rw [Try.params3] at hA hval
  obtain ⟨v0, vs0, d0, ds0, p0, q0, hargs, rfl, rfl, h0, r0⟩ := trodAll_cons hA
  obtain ⟨rfl, rfl, rfl⟩ := trodAll_nil r0
  obtain rfl : args = #[v0] := by cases args; simp_all
  obtain ⟨rfl, rfl⟩ := trodVars_none hV
  obtain ⟨cs, rfl, hcs⟩ := okWide_struct Try.underlying25 (hval 0 25 v0 rfl rfl)
  have k0 := h0
  have lt0 : ∀ x ∈ p0, x.block < W.heap.size := by obtain ⟨m, hm⟩ := k0; exact DataW.trod_lt m _ _ _ hm
  obtain ⟨s, al, ll, cl, ap, lp, cp, hl, hC⟩ : ∃ (s : MStart) (al : Option Addr) (ll cl : Nat) (ap : Option Addr) (lp cp : Nat), cs.toList = [.slice al ll cl, .int .i64 s.loader, .string s.name, .int .i64 s.fuel, .int .i64 s.room, .bool s.prove, .slice ap lp cp] ∧ ArgS W al ll ap lp s := by
    obtain ⟨fuel, hf⟩ := h0
    exact start_of (by simpa [Value.cells] using hf)
  obtain rfl : cs = #[.slice al ll cl, .int .i64 s.loader, .string s.name, .int .i64 s.fuel, .int .i64 s.room, .bool s.prove, .slice ap lp cp] := by cases cs; simp_all
  clear hA0 hval0
  refine (walk s al ll cl ap lp cp W hC).mono fun e W' ⟨he, bel⟩ => ?_
  subst he
  exact ⟨_, rfl, _, _, _, [], _, [], hW', trodAll_mk1 (shut_bool Try.underlying4 _), (trodAll_cons_mk (Below.trod laidOut (by kernel_rfl) (of_decide_eq_true (by kernel_rfl)) k0 bel lt0) trodAll_mk0), rfl, bel.frame _, fun h => by cases h⟩

theorem over : Rows.fnExactStartOkRow.holds Try.pinned (OpenSpec.ofChange Rows.fnExactStartOkSpec) :=
  OpenClaim.holds_of_wide 3 Try.f3 rfl rfl rfl rfl rfl rfl rfl ⟨rfl, rfl, rfl, rfl, rfl⟩ rfl rfl rfl rfl rfl (by kernel_rfl) Try.func3 (by kernel_rfl)
    (of_decide_eq_true (by kernel_rfl)) (by unfold Func.isWrapper; first | (rw [if_pos (by decide +kernel)]; kernel_rfl) | (rw [if_neg (by decide +kernel)]; exact ⟨rfl, rfl⟩))
    (fun os started H enc _ => lifted os started H enc)

end Go.Proofs.Ytckloemgjeagmaa.fnExactStartOk
namespace Go.Proofs.Ytckloemgjeagmaa
theorem fnExactStartOkHolds : Rows.FnExactStartOkSaid := fnExactStartOk.over
end Go.Proofs.Ytckloemgjeagmaa
