/- Proved: the law FnExactTraceMost returns true at every list of lines and leaves its argument as it was: TraceMost of the program answers as the specification's, at every argument, writes into none, and owns the memory of its answer. No condition. -/
import Derived.Test.YtpjpbilcmnfgpaaRows
import Derived.Test.YtpjpbilcmnfgpaaTrMostW
import Derived.Test.YtpjpbilcmnfgpaaMkLine
import Derived.Test.YtpjpbilcmnfgpaaMkInt
import Derived.Deep.Slices
import Derived.Deep.Strs
import Derived.Lib.SmallJoins
import Derived.WalkKit
import Derived.ProofKit
import Derived.OpenShut
import Derived.ShutString
namespace Go.Proofs.Ytpjpbilcmnfgpaa.fnExactTraceMost
open Go.ChangeShapes Go.WideShapes Go.ChangeAt Go.RowKit
open Go.ChangeMaps (open_string shut_string)
set_option linter.unusedVariables false
set_option maxHeartbeats 2000000
set_option maxRecDepth 20000

theorem own : ownKnob Try.prog.godebug = none := by kernel_rfl
theorem laidOut : laidOutB Try.prog = true := by kernel_rfl

/-- all that is kept up to the marks: what was, the specification's answer, the copy that is handed to the program, its answer -/
structure K1 (w : World) (b3 b4 : Nat) (v u0 u5 : Value) (n : Nat) (R : List Int) (W : World) : Prop where
  b : Below w.heap.size w W
  l : RLine W b3 b4 v n
  r0 : W.ownsRow w.heap.size 3 1 u0 R.length (rowI R)
  s0 : ∀ k, u0.ownBlock = some k → k < b3
  r5 : W.ownsRow b4 3 1 u5 R.length (rowI R)
theorem K1.keep {w : World} {b3 b4 : Nat} {v u0 u5 : Value} {n : Nat} {R : List Int} {W W' : World} (h : K1 w b3 b4 v u0 u5 n R W) (hb : Below W.heap.size W W') : K1 w b3 b4 v u0 u5 n R W' :=
  ⟨h.b.trans (hb.mono h.b.size), h.l.chg (Chg.below (B := 0) (H := 0) hb), own_below h.r0 hb, h.s0, own_below h.r5 hb⟩
theorem K1.mark {w : World} {b3 b4 : Nat} {v u0 u5 : Value} {n : Nat} {R : List Int} {W W' : World} (h : K1 w b3 b4 v u0 u5 n R W) (hb : Chg b3 b4 W W') (h3 : w.heap.size ≤ b3) : K1 w b3 b4 v u0 u5 n R W' :=
  ⟨h.b.trans (hb.up h3 h.b.size), h.l.chg hb, hb.own h.r0 (fun k hk => .inl (h.s0 k hk)), h.s0, hb.own h.r5 (fun k hk => .inr (h.r5.lt k hk).1)⟩
/-- all that is kept behind the marks -/
structure K2 (w : World) (b3 b4 : Nat) (u0 u5 : Value) (R : List Int) (W : World) : Prop where
  b : Below w.heap.size w W
  r0 : W.ownsRow w.heap.size 3 1 u0 R.length (rowI R)
  r5 : W.ownsRow b4 3 1 u5 R.length (cnt 1 (R.length * 1))
theorem K2.keep {w : World} {b3 b4 : Nat} {u0 u5 : Value} {R : List Int} {W W' : World} (h : K2 w b3 b4 u0 u5 R W) (hb : Below W.heap.size W W') : K2 w b3 b4 u0 u5 R W' :=
  ⟨h.b.trans (hb.mono h.b.size), own_below h.r0 hb, own_below h.r5 hb⟩
theorem walk (ts : List MLine) (al : Option Addr) (ll cl : Nat) (w : World) (hm : ll ≤ maxLen) (hA : ArgLine w al ll ts) :
    Calls Try.prog 3 #[.slice al ll cl] w fun e w' => e = .returned (.bool true) ∧ Below w.heap.size w w' := by
  have hsz := szLineS_any al ll cl ts 1048576 w hm (by omega) (by omega) hA
  obtain rfl := hA.1
  have HA := hid hA
  have hR35 := mostL_len ts
  obtain ⟨R, HR⟩ : ∃ R, Hid (mostL ts = R) := ⟨_, rfl⟩
  rw [HR.out] at hR35
  have HR35 := hid hR35
  have hsh : R.length ≤ 40 := by omega
  clear hR35
  clear hA
  go_enter Try.func3, Try.ntmps3
  go_wp2_with fail
  refine hsz.mono ?_
  rintro e w1 ⟨r, rfl, hr, hb1⟩
  by_cases hneg : r < 0
  · have HO := hid hb1
    clear hr hb1
    go_wp2_with fail
    go_ret
    exact ⟨rfl, HO.out⟩
  have hc := hr.resolve_left hneg
  have HF := hid hc.2.2.2
  have hle := hc.2.2.1
  have HB1 := hid hb1
  have hto := fun W (hW : Below w.heap.size w W) => toLineS_any al ts.length cl ts W (by omega) (HA.out.keep hW)
  clear hr hc hb1
  go_wp2_with fail
  refine (hto _ HB1.out).mono ?_
  rintro e w2 ⟨v2, rfl, ho2, hb2⟩
  have HB2 := hid (HB1.out.trans (hb2.mono HB1.out.size))
  have hS := specTraceMost_any v2 ts _ w2 hle ho2
  obtain ⟨a2, c2, hv2⟩ := own_len ho2
  subst hv2
  clear hb2 HB1 ho2
  go_wp2_with fail
  refine hS.mono ?_
  rintro e w3 ⟨u0, rfl, hr0, hb3⟩
  rw [HR.out, ← HR35.out] at hr0
  have HB3 := hid (HB2.out.trans (hb3.mono HB2.out.size))
  have HR0 := hid (Joins.ownsRow_le (base' := w.heap.size) hr0 HB2.out.size)
  obtain ⟨a0, c0, hv0⟩ := own_len hr0
  subst hv0
  clear hS hb3 HB2 hr0
  go_wp2_with fail
  refine (hto _ HB3.out).mono ?_
  rintro e w4 ⟨v4, rfl, ho4, hb4⟩
  have HB4 := hid (HB3.out.trans (hb4.mono HB3.out.size))
  have HL4 := hid (RLine.own ho4)
  have HO4 := hid ho4
  have HS4 := hid (show ∀ k, (Value.slice a0 R.length c0).ownBlock = some k → k < w3.heap.size from fun k hk => (HR0.out.lt k hk).2)
  have HR4 := hid (own_below HR0.out hb4)
  have hI := implTraceMost_any v4 ts _ w4 hle ho4
  obtain ⟨a4, c4, hv4⟩ := own_len ho4
  subst hv4
  have hs34 := hb4.size
  clear hb4 ho4 HR0
  go_wp2_with fail
  refine hI.mono ?_
  rintro e w5 ⟨u5, rfl, hr5, hb5⟩
  rw [HR.out, ← HR35.out] at hr5
  obtain ⟨a5, c5, hv5⟩ := own_len hr5
  subst hv5
  have T5 : K1 w w3.heap.size w4.heap.size (.slice a4 ts.length c4) (.slice a0 R.length c0) (.slice a5 R.length c5) ts.length R w5 :=
    ⟨HB4.out.trans (hb5.mono HB4.out.size), HL4.out.chg (Chg.below (B := 0) (H := 0) hb5), own_below HR4.out hb5, HS4.out, hr5⟩
  have HX5 := hid (own_below HO4.out hb5)
  have h3 := HB3.out.size
  have hq := eqIntS_same _ _ R _ _ w5 (by omega) T5.r5 T5.r0
  clear hI hb5 HB4 HO4 HR4 HS4 HL4 hr5 HB3
  go_wp2_with fail
  refine hq.mono ?_
  rintro e w6 ⟨rfl, hb6⟩
  have T6 := T5.keep hb6
  have HX6 := hid (own_below HX5.out hb6)
  clear T5 hb6 hq HX5
  go_wp2_with fail
  refine (hto _ T6.b).mono ?_
  rintro e w7 ⟨v7, rfl, ho7, hb7⟩
  have T7 := T6.keep hb7
  have hq := eqLineS_same (.slice a4 ts.length c4) v7 ts _ _ w7 hle (own_below HX6.out hb7) ho7
  obtain ⟨a7, c7, hv7⟩ := own_len ho7
  subst hv7
  clear T6 hb7 ho7 HX6
  go_wp2_with fail
  refine hq.mono ?_
  rintro e w8 ⟨rfl, hb8⟩
  have T8 := T7.keep hb8
  have hmk := markLineS_weak (.slice a4 ts.length c4) ts.length 1 w3.heap.size w4.heap.size w8 hle (by omega) (by omega) hs34 T8.l
  clear T7 hb8 hq
  go_wp2_with fail
  refine hmk.mono ?_
  rintro e w9 ⟨k, rfl, hk1, hk2, hc9⟩
  have T9 := T8.mark hc9 h3
  clear T8 hc9 hmk
  have hq := eqIntS_same _ _ R _ _ w9 (by omega) T9.r5 T9.r0
  go_wp2_with fail
  refine hq.mono ?_
  rintro e w10 ⟨rfl, hb10⟩
  have T10 := T9.keep hb10
  have hm := markIntS_any _ 1 R.length _ _ w10 (by omega) (by omega) T10.r5
  clear T9 hb10 hq
  go_wp2_with fail
  refine hm.mono ?_
  rintro e w11 ⟨rfl, ho11, hg11⟩
  have hne : ∀ i, (Value.slice a0 R.length c0).ownBlock = some i → (Value.slice a5 R.length c5).ownBlock ≠ some i := fun i hi he => by
    have := T10.s0 i hi
    have := (T10.r5.lt i he).1
    omega
  have T11 : K2 w w3.heap.size w4.heap.size (.slice a0 R.length c0) (.slice a5 R.length c5) R w11 := by
    refine ⟨?_, T10.r0.kept hg11 (by cases hz : (Value.slice a0 R.length c0).ownBlock with | none => exact .inl rfl | some i => exact .inr (by rw [← hz]; intro e; exact hne i hz (by rw [← e]; exact hz))), ho11⟩
    have h34 := hs34
    exact T10.b.grown hg11 T10.b.size (fun i hi => by have := (T10.r5.lt i hi).1; omega)
  clear T10 hg11 ho11 hm hne
  have hh := heldIntS_any _ 1 R.length _ w11 (by omega) (by omega) T11.r5
  go_wp2_with fail
  refine hh.mono ?_
  rintro e w12 ⟨rfl, hb12⟩
  have T12 := T11.keep hb12
  clear T11 hb12 hh
  go_wp2_with fail
  refine (hto _ T12.b).mono ?_
  rintro e w13 ⟨v13, rfl, ho13, hb13⟩
  have T13 := T12.keep hb13
  have hI := implTraceMost_any v13 ts _ w13 hle ho13
  obtain ⟨a13, c13, hv13⟩ := own_len ho13
  subst hv13
  clear T12 hb13 ho13
  go_wp2_with fail
  refine hI.mono ?_
  rintro e w14 ⟨u14, rfl, hr14, hb14⟩
  rw [HR.out, ← HR35.out] at hr14
  have T14 := T13.keep hb14
  have hq := eqIntS_same _ _ R _ _ w14 (by omega) hr14 T14.r0
  obtain ⟨a14, c14, hv14⟩ := own_len hr14
  subst hv14
  clear T13 hb14 hI hr14
  go_wp2_with fail
  refine hq.mono ?_
  rintro e w15 ⟨rfl, hb15⟩
  have T15 := T14.keep hb15
  clear T14 hb15 hq
  have hh := heldIntS_any _ 1 R.length _ w15 (by omega) (by omega) T15.r5
  go_wp2_with fail
  refine hh.mono ?_
  rintro e w16 ⟨rfl, hb16⟩
  have HO := hid (T15.keep hb16).b
  clear T15 hb16 hh
  go_wp2_with fail
  go_ret
  exact ⟨rfl, HO.out⟩


set_option maxRecDepth 100000 in
theorem lifted (os : Os) (started : os.Started) (H : Type) (enc : TypeId × Value → H) :
    ReturnsInHanded {} Try.checked os 3 .any (Rows.fnExactTraceMostSpec.pre6 enc Try.prog Try.f3 Rows.fnExactTraceMostRow.domain false) (Rows.fnExactTraceMostSpec.post enc Try.prog Try.f3 false true false false) := by
  refine returnsInHanded_of_change (C := Try.checked) own started (by kernel_rfl) Try.func3
    (ChangeSpec.witness6 (enc := enc) (C := Try.checked) false ⟨#[], #[.slice none 0 0], []⟩ 8 (by kernel_rfl) (by kernel_rfl) (by kernel_rfl) (by kernel_rfl)) ?_
  intro W base args ds gs before hval0 hW hcnd _
  have hval : ∀ (j : Nat) t v, Try.f3.params[j]? = some t → args[j]? = some v → Value.okWide Try.prog W .any base t v := hval0
  have hW' := hW
  obtain ⟨p, q, hA0, hV, rfl, hfz, hnd⟩ := hW
  have hA : DataW.TrodAll enc Try.prog W 0 (fun _ => true) true Try.f3.params.toList args.toList ds p := hA0
  rw [Try.params3] at hA hval
  obtain ⟨v0, vs0, d0, ds0, p0, q0, hargs0, rfl, rfl, h0, r0⟩ := trodAll_cons hA
  obtain ⟨rfl, rfl, rfl⟩ := trodAll_nil r0
  obtain rfl : args = #[v0] := by cases args; simp_all
  obtain ⟨rfl, rfl⟩ := trodVars_none hV
  obtain ⟨al, ll, cl, rfl⟩ := okWide_slice Try.underlying22 (hval 0 22 v0 rfl rfl)
  have k0 := h0
  have lt0 : ∀ x ∈ p0, x.block < W.heap.size := by obtain ⟨m, hm⟩ := k0; exact DataW.trod_lt m _ _ _ hm
  obtain ⟨fuel0, hf0⟩ := h0
  obtain ⟨hm, ts, hLS, _⟩ := lines_of (by simpa [Value.cells] using hf0)
  clear hA0 hval0
  refine (walk ts al ll cl W hm hLS).mono fun e W' ⟨he, bel⟩ => ?_
  subst he
  exact ⟨_, rfl, _, _, _, [], _, [], hW', trodAll_mk1 (shut_bool Try.underlying4 _), (trodAll_cons_mk (Below.trod laidOut (by kernel_rfl) (of_decide_eq_true (by kernel_rfl)) k0 bel lt0) trodAll_mk0), rfl, bel.frame _, fun h => by cases h⟩

theorem over : Rows.fnExactTraceMostRow.holds Try.pinned (OpenSpec.ofChange Rows.fnExactTraceMostSpec) :=
  OpenClaim.holds_of_wide 3 Try.f3 rfl rfl rfl rfl rfl rfl rfl ⟨rfl, rfl, rfl, rfl, rfl⟩ rfl rfl rfl rfl rfl (by kernel_rfl) Try.func3 (by kernel_rfl)
    (of_decide_eq_true (by kernel_rfl)) (by unfold Func.isWrapper; first | (rw [if_pos (by decide +kernel)]; kernel_rfl) | (rw [if_neg (by decide +kernel)]; exact ⟨rfl, rfl⟩))
    (fun os started H enc _ => lifted os started H enc)

end Go.Proofs.Ytpjpbilcmnfgpaa.fnExactTraceMost
namespace Go.Proofs.Ytpjpbilcmnfgpaa
theorem fnExactTraceMostHolds : Rows.FnExactTraceMostSaid := fnExactTraceMost.over
end Go.Proofs.Ytpjpbilcmnfgpaa
