/- Proved: the law FnExactPathMaker returns true at every list of loaders, number and name, and leaves its arguments as they were: PathMaker of the program answers as the specification's, at every argument, and writes into none. No condition. -/
import Derived.Test.YtjhmjjechagbjaaRows
import Derived.Test.YtjhmjjechagbjaaPaTop
import Derived.Test.YtjhmjjechagbjaaStArg
import Derived.Deep.Slices
import Derived.Deep.Strs
import Derived.Lib.SmallJoins
import Derived.WalkKit
import Derived.ProofKit
import Derived.OpenShut
import Derived.ShutString
namespace Go.Proofs.Ytjhmjjechagbjaa.fnExactPathMaker
open Go.ChangeShapes Go.WideShapes Go.ChangeAt Go.RowKit
open Go.ChangeMaps (open_string shut_string)
set_option linter.unusedVariables false
set_option maxHeartbeats 2000000
set_option maxRecDepth 20000

theorem own : ownKnob Try.prog.godebug = none := by kernel_rfl
theorem laidOut : laidOutB Try.prog = true := by kernel_rfl

/-- what is kept beside the law's calls: all that was, and the copy that is handed to the program -/
structure AtL (w : World) (B : Nat) (v : Value) (ls : List MLoader) (W : World) : Prop where
  b : Below w.heap.size w W
  l : LoadersW W B v ls
theorem AtL.keep {w : World} {B : Nat} {v : Value} {ls : List MLoader} {W W' : World} (h : AtL w B v ls W) (hb : Below W.heap.size W W') : AtL w B v ls W' := ⟨h.b.trans (hb.mono h.b.size), h.l.keep hb⟩

theorem walk (ls : List MLoader) (al : Option Addr) (ll cl : Nat) (n : Int) (nm : ByteArray) (w : World) (hm : ll ≤ maxLen) (hs : nm.size ≤ maxLen) (hA : ArgLS w al ll ls) :
    Calls Try.prog 4 #[.slice al ll cl, .int .i64 n, .string nm] w fun e w' => e = .returned (.bool true) ∧ Below w.heap.size w w' := by
  have hsz := szLoaderS_any al ll cl ls 1048576 w hm (by omega) (by omega) hA
  obtain rfl := hA.1
  have HA := hid hA
  have hs' := hs
  unfold maxLen at hs'
  clear hA
  go_enter Try.func4, Try.ntmps4
  by_cases hn : nm.size ≤ 1048576
  case neg =>
    clear hsz
    go_wp2_with fail
    go_ret
    exact ⟨rfl, by go_grown⟩
  go_wp2_with fail
  refine hsz.mono ?_
  rintro e w1 ⟨r, rfl, hr, hb1⟩
  by_cases hneg : r < 0
  · have HO := hid hb1
    clear hr hb1
    go_wp2_with fail
    go_ret
    exact ⟨rfl, HO.out⟩
  have hc := hr.resolve_left hneg
  have HF := hid hc.2.2.2
  have hle := hc.2.2.1
  have HB1 := hid hb1
  have hto := fun W (hW : Below w.heap.size w W) => toLoaderS_any al ls.length cl ls W (by omega) (HA.out.keep hW) HF.out
  clear hr hc hb1
  go_wp2_with fail
  refine (hto _ HB1.out).mono ?_
  rintro e w2 ⟨v2, rfl, ho2, hb2⟩
  have HB2 := hid (HB1.out.trans (hb2.mono HB1.out.size))
  have hS := specPathMaker_any v2 ls n nm _ w2 hle hs HF.out ho2
  clear hb2 HB1 ho2
  go_wp2_with fail
  refine hS.mono ?_
  rintro e w3 ⟨m, rfl, hmk, hb3⟩
  have HB3 := hid (HB2.out.trans (hb3.mono HB2.out.size))
  have HM := hid hmk
  clear hS hb3 HB2 hmk
  go_wp2_with fail
  refine (hto _ HB3.out).mono ?_
  rintro e w4 ⟨v4, rfl, ho4, hb4⟩
  have HB4 := hid (HB3.out.trans (hb4.mono HB3.out.size))
  have HO4 := hid ho4
  have hI := implPathMaker_any v4 ls n nm _ w4 hle hs HF.out ho4
  obtain ⟨a4, c4, hv4⟩ := loadersW_len ho4
  subst hv4
  clear hb4 HB3 ho4
  go_wp2_with fail
  refine hI.mono ?_
  rintro e w5 ⟨m', rfl, hmk', hb5⟩
  obtain rfl : m = m' := HM.out.one hmk'
  have HB5 := hid (HB4.out.trans (hb5.mono HB4.out.size))
  have HO5 := hid (HO4.out.keep hb5)
  clear hI hb5 HB4 HO4 hmk' HM
  have T5 : AtL w w3.heap.size (.slice a4 ls.length c4) ls w5 := ⟨HB5.out, HO5.out⟩
  clear HB5 HO5
  go_wp2_with fail
  refine (hto _ T5.b).mono ?_
  rintro e w6 ⟨v6, rfl, ho6, hb6⟩
  have T6 := T5.keep hb6
  have hq := eqLoaderS_same (.slice a4 ls.length c4) v6 ls _ _ w6 hle HF.out T6.l ho6
  clear T5 hb6 ho6 hto
  go_wp2_with fail
  refine hq.mono ?_
  rintro e w7 ⟨rfl, hb7⟩
  have HO := hid (T6.b.trans (hb7.mono T6.b.size))
  clear T6 hb7 hq
  go_wp2_with fail
  go_ret
  exact ⟨rfl, HO.out⟩

set_option maxRecDepth 100000 in
theorem lifted (os : Os) (started : os.Started) (H : Type) (enc : TypeId × Value → H) :
    ReturnsInHanded {} Try.checked os 4 .any (Rows.fnExactPathMakerSpec.pre6 enc Try.prog Try.f4 Rows.fnExactPathMakerRow.domain false) (Rows.fnExactPathMakerSpec.post enc Try.prog Try.f4 false true false false) := by
  refine returnsInHanded_of_change (C := Try.checked) own started (by kernel_rfl) Try.func4
    (ChangeSpec.witness6 (enc := enc) (C := Try.checked) false ⟨#[], #[.slice none 0 0, .int .i64 0, .string ⟨#[]⟩], []⟩ 8 (by kernel_rfl) (by kernel_rfl) (by kernel_rfl) (by kernel_rfl)) ?_
  intro W base args ds gs before hval0 hW hcnd _
  have hval : ∀ (j : Nat) t v, Try.f4.params[j]? = some t → args[j]? = some v → Value.okWide Try.prog W .any base t v := hval0
  have hW' := hW
  obtain ⟨p, q, hA0, hV, rfl, hfz, hnd⟩ := hW
  have hA : DataW.TrodAll enc Try.prog W 0 (fun _ => true) true Try.f4.params.toList args.toList ds p := hA0
  rw [Try.params4] at hA hval
  obtain ⟨v0, vs0, d0, ds0, p0, q0, hargs0, rfl, rfl, h0, r0⟩ := trodAll_cons hA
  obtain ⟨v1, vs1, d1, ds1, p1, q1, hargs1, rfl, rfl, h1, r1⟩ := trodAll_cons r0
  obtain ⟨v2, vs2, d2, ds2, p2, q2, hargs2, rfl, rfl, h2, r2⟩ := trodAll_cons r1
  obtain ⟨rfl, rfl, rfl⟩ := trodAll_nil r2
  obtain rfl : args = #[v0, v1, v2] := by cases args; simp_all
  obtain ⟨rfl, rfl⟩ := trodVars_none hV
  obtain ⟨al, ll, cl, rfl⟩ := okWide_slice Try.underlying22 (hval 0 22 v0 rfl rfl)
  have k0 := h0
  have lt0 : ∀ x ∈ p0, x.block < W.heap.size := by obtain ⟨m, hm⟩ := k0; exact DataW.trod_lt m _ _ _ hm
  obtain ⟨hm, ls, hLS⟩ : ll ≤ maxLen ∧ ∃ ls, ArgLS W al ll ls := by
    obtain ⟨fuel, hf⟩ := h0
    exact loaders_of (by simpa [Value.cells] using hf)
  obtain ⟨n1, rfl, rfl, rfl, wf1⟩ := open_int Try.underlying3 (hval 1 3 v1 rfl rfl) h1
  obtain ⟨s2, rfl, rfl, rfl, sz2⟩ := open_string Try.underlying9 (hval 2 9 v2 rfl rfl) h2
  clear hA0 hval0
  refine (walk ls al ll cl n1 s2 W hm sz2 hLS).mono fun e W' ⟨he, bel⟩ => ?_
  subst he
  exact ⟨_, rfl, _, _, _, [], _, [], hW', trodAll_mk1 (shut_bool Try.underlying4 _), (trodAll_cons_mk (Below.trod laidOut (by kernel_rfl) (of_decide_eq_true (by kernel_rfl)) k0 bel lt0) (trodAll_cons_mk (shut_int Try.underlying3 wf1) (trodAll_cons_mk (shut_string Try.underlying9 sz2) trodAll_mk0))), rfl, bel.frame _, fun h => by cases h⟩

theorem over : Rows.fnExactPathMakerRow.holds Try.pinned (OpenSpec.ofChange Rows.fnExactPathMakerSpec) :=
  OpenClaim.holds_of_wide 4 Try.f4 rfl rfl rfl rfl rfl rfl rfl ⟨rfl, rfl, rfl, rfl, rfl⟩ rfl rfl rfl rfl rfl (by kernel_rfl) Try.func4 (by kernel_rfl)
    (of_decide_eq_true (by kernel_rfl)) (by unfold Func.isWrapper; first | (rw [if_pos (by decide +kernel)]; kernel_rfl) | (rw [if_neg (by decide +kernel)]; exact ⟨rfl, rfl⟩))
    (fun os started H enc _ => lifted os started H enc)

end Go.Proofs.Ytjhmjjechagbjaa.fnExactPathMaker
namespace Go.Proofs.Ytjhmjjechagbjaa
theorem fnExactPathMakerHolds : Rows.FnExactPathMakerSaid := fnExactPathMaker.over
end Go.Proofs.Ytjhmjjechagbjaa
