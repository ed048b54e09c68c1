/- Proved: the law FnExactPathOf returns true at every list of loaders, number and name, and leaves its arguments as they were: PathOf of the program answers as the specification's, at every argument, writes into none, and owns the memory of its answer. No condition. -/
import Derived.Test.YtjhmjjechagbjaaRows
import Derived.Test.YtjhmjjechagbjaaPaTop
import Derived.Test.YtjhmjjechagbjaaStArg
import Derived.Test.YtjhmjjechagbjaaMkLoad
import Derived.Test.YtjhmjjechagbjaaMkInt
import Derived.Deep.Slices
import Derived.Deep.Strs
import Derived.Lib.SmallJoins
import Derived.WalkKit
import Derived.ProofKit
import Derived.OpenShut
import Derived.ShutString
namespace Go.Proofs.Ytjhmjjechagbjaa.fnExactPathOf
open Go.ChangeShapes Go.WideShapes Go.ChangeAt Go.RowKit
open Go.ChangeMaps (open_string shut_string)
set_option linter.unusedVariables false
set_option maxHeartbeats 2000000
set_option maxRecDepth 20000

theorem own : ownKnob Try.prog.godebug = none := by kernel_rfl
theorem laidOut : laidOutB Try.prog = true := by kernel_rfl

theorem short {ls : List MLoader} {n : Int} {nm : ByteArray} {R : List Int} (h : PathOut ls n nm R) : R.length ≤ 4 := by
  by_cases ha : askP ls n nm
  · have := h.nat.2
    have := ha.ok.hi
    omega
  · rw [h.n ha]; simp
/-- all that is kept up to the marks: what was, the specification's answer, the copy that is handed to the program, its answer -/
structure K1 (w : World) (b3 b4 : Nat) (v u0 u5 : Value) (n : Nat) (R : List Int) (W : World) : Prop where
  b : Below w.heap.size w W
  l : LdRows W b3 b4 v n
  r0 : W.ownsRow w.heap.size 3 1 u0 R.length (rowI R)
  s0 : ∀ k, u0.ownBlock = some k → k < b3
  r5 : W.ownsRow b4 3 1 u5 R.length (rowI R)
theorem K1.keep {w : World} {b3 b4 : Nat} {v u0 u5 : Value} {n : Nat} {R : List Int} {W W' : World} (h : K1 w b3 b4 v u0 u5 n R W) (hb : Below W.heap.size W W') : K1 w b3 b4 v u0 u5 n R W' := by
  refine ⟨h.b.trans (hb.mono h.b.size), ?_, own_below h.r0 hb, h.s0, own_below h.r5 hb⟩
  obtain ⟨ao, c, rfl, hl⟩ := h.l
  exact ⟨ao, c, rfl, hl.imp id (fun ⟨g, e, g1, g2, g3⟩ => ⟨g, e, g1, g2, fun i hi => (g3 i hi).chg (Chg.below (B := 0) (H := 0) hb)⟩)⟩
theorem K1.mark {w : World} {b3 b4 : Nat} {v u0 u5 : Value} {n : Nat} {R : List Int} {W W' : World} (h : K1 w b3 b4 v u0 u5 n R W) (hb : Chg b3 b4 W W') (h3 : w.heap.size ≤ b3) : K1 w b3 b4 v u0 u5 n R W' := by
  refine ⟨h.b.trans (hb.up h3 h.b.size), ?_, hb.own h.r0 (fun k hk => .inl (h.s0 k hk)), h.s0, hb.own h.r5 (fun k hk => .inr (h.r5.lt k hk).1)⟩
  obtain ⟨ao, c, rfl, hl⟩ := h.l
  exact ⟨ao, c, rfl, hl.imp id (fun ⟨g, e, g1, g2, g3⟩ => ⟨g, e, g1, g2, fun i hi => (g3 i hi).chg hb⟩)⟩
/-- all that is kept behind the marks -/
structure K2 (w : World) (b3 b4 : Nat) (u0 u5 : Value) (R : List Int) (W : World) : Prop where
  b : Below w.heap.size w W
  r0 : W.ownsRow w.heap.size 3 1 u0 R.length (rowI R)
  r5 : W.ownsRow b4 3 1 u5 R.length (cnt 1 (R.length * 1))
theorem K2.keep {w : World} {b3 b4 : Nat} {u0 u5 : Value} {R : List Int} {W W' : World} (h : K2 w b3 b4 u0 u5 R W) (hb : Below W.heap.size W W') : K2 w b3 b4 u0 u5 R W' :=
  ⟨h.b.trans (hb.mono h.b.size), own_below h.r0 hb, own_below h.r5 hb⟩
theorem rowI_ints (R : List Int) : ints R = rowI R := by
  first | rfl | (unfold ints rowI; simp) | (induction R with
    | nil => rfl
    | cons a r ih => simp [ints, rowI] at *; try exact ih)

theorem walk (ls : List MLoader) (al : Option Addr) (ll cl : Nat) (n : Int) (nm : ByteArray) (w : World) (hm : ll ≤ maxLen) (hs : nm.size ≤ maxLen) (hA : ArgLS w al ll ls) :
    Calls Try.prog 3 #[.slice al ll cl, .int .i64 n, .string nm] w fun e w' => e = .returned (.bool true) ∧ Below w.heap.size w w' := by
  have hsz := szLoaderS_any al ll cl ls 1048576 w hm (by omega) (by omega) hA
  obtain rfl := hA.1
  have HA := hid hA
  have hs' := hs
  unfold maxLen at hs'
  clear hA
  go_enter Try.func3, Try.ntmps3
  by_cases hn : nm.size ≤ 1048576
  case neg =>
    clear hsz
    go_wp2_with fail
    go_ret
    exact ⟨rfl, by go_grown⟩
  go_wp2_with fail
  refine hsz.mono ?_
  rintro e w1 ⟨r, rfl, hr, hb1⟩
  by_cases hneg : r < 0
  · have HO := hid hb1
    clear hr hb1
    go_wp2_with fail
    go_ret
    exact ⟨rfl, HO.out⟩
  have hc := hr.resolve_left hneg
  have HF := hid hc.2.2.2
  have hle := hc.2.2.1
  have HB1 := hid hb1
  have hto := fun W (hW : Below w.heap.size w W) => toLoaderS_any al ls.length cl ls W (by omega) (HA.out.keep hW) HF.out
  clear hr hc hb1
  go_wp2_with fail
  refine (hto _ HB1.out).mono ?_
  rintro e w2 ⟨v2, rfl, ho2, hb2⟩
  have HB2 := hid (HB1.out.trans (hb2.mono HB1.out.size))
  have hS := specPathOf_any v2 ls n nm _ w2 hle hs HF.out ho2
  clear hb2 HB1 ho2
  go_wp2_with fail
  refine hS.mono ?_
  rintro e w3 ⟨u0, R, rfl, hR, hr0, hb3⟩
  have HB3 := hid (HB2.out.trans (hb3.mono HB2.out.size))
  have HR := hid hR
  have hsh := short hR
  rw [rowI_ints] at hr0
  have HR0 := hid (Joins.ownsRow_le (base' := w.heap.size) hr0 HB2.out.size)
  obtain ⟨a0, c0, hv0⟩ := own_len hr0
  subst hv0
  clear hS hb3 HB2 hR hr0
  go_wp2_with fail
  refine (hto _ HB3.out).mono ?_
  rintro e w4 ⟨v4, rfl, ho4, hb4⟩
  have HB4 := hid (HB3.out.trans (hb4.mono HB3.out.size))
  have HL4 := hid (ldRows_of ho4 HF.out)
  have HO4 := hid ho4
  have HS4 := hid (show ∀ k, (Value.slice a0 R.length c0).ownBlock = some k → k < w3.heap.size from fun k hk => (HR0.out.lt k hk).2)
  have HR4 := hid (own_below HR0.out hb4)
  have hI := implPathOf_any v4 ls n nm _ w4 hle hs HF.out ho4
  obtain ⟨a4, c4, hv4⟩ := loadersW_len ho4
  subst hv4
  have hs34 := hb4.size
  clear hb4 ho4 HR0
  go_wp2_with fail
  refine hI.mono ?_
  rintro e w5 ⟨u5, R', rfl, hR', hr5, hb5⟩
  obtain rfl : R = R' := HR.out.one hR'
  rw [rowI_ints] at hr5
  obtain ⟨a5, c5, hv5⟩ := own_len hr5
  subst hv5
  have T5 : K1 w w3.heap.size w4.heap.size (.slice a4 ls.length c4) (.slice a0 R.length c0) (.slice a5 R.length c5) ls.length R w5 := by
    refine ⟨HB4.out.trans (hb5.mono HB4.out.size), ?_, own_below HR4.out hb5, HS4.out, hr5⟩
    obtain ⟨ao, c, e, hl⟩ := HL4.out
    exact ⟨ao, c, e, hl.imp id (fun ⟨g, e, g1, g2, g3⟩ => ⟨g, e, g1, g2, fun i hi => (g3 i hi).chg (Chg.below (B := 0) (H := 0) hb5)⟩)⟩
  have HX5 := hid (HO4.out.keep hb5)
  have h3 := HB3.out.size
  have hq := eqIntS_same _ _ R _ _ w5 (by omega) T5.r5 T5.r0
  clear hI hb5 HB4 HO4 hR' HR4 HS4 HL4 hr5 HB3
  go_wp2_with fail
  refine hq.mono ?_
  rintro e w6 ⟨rfl, hb6⟩
  have T6 := T5.keep hb6
  have HX6 := hid (HX5.out.keep hb6)
  clear T5 hb6 hq HX5
  go_wp2_with fail
  refine (hto _ T6.b).mono ?_
  rintro e w7 ⟨v7, rfl, ho7, hb7⟩
  have T7 := T6.keep hb7
  have hq := eqLoaderS_same (.slice a4 ls.length c4) v7 ls _ _ w7 hle HF.out (HX6.out.keep hb7) ho7
  clear T6 hb7 ho7 HX6
  go_wp2_with fail
  refine hq.mono ?_
  rintro e w8 ⟨rfl, hb8⟩
  have T8 := T7.keep hb8
  have hmk := markLoaderS_weak (.slice a4 ls.length c4) ls.length 1 w3.heap.size w4.heap.size w8 hle (by omega) (by omega) hs34 T8.l
  clear T7 hb8 hq
  go_wp2_with fail
  refine hmk.mono ?_
  rintro e w9 ⟨k, rfl, hc9⟩
  have T9 := T8.mark hc9 h3
  clear T8 hc9 hmk
  have hq := eqIntS_same _ _ R _ _ w9 (by omega) T9.r5 T9.r0
  go_wp2_with fail
  refine hq.mono ?_
  rintro e w10 ⟨rfl, hb10⟩
  have T10 := T9.keep hb10
  have hm := markIntS_any _ 1 R.length _ _ w10 (by omega) (by omega) T10.r5
  clear T9 hb10 hq
  go_wp2_with fail
  refine hm.mono ?_
  rintro e w11 ⟨rfl, ho11, hg11⟩
  have hne : ∀ i, (Value.slice a0 R.length c0).ownBlock = some i → (Value.slice a5 R.length c5).ownBlock ≠ some i := fun i hi he => by
    have := T10.s0 i hi
    have := (T10.r5.lt i he).1
    omega
  have T11 : K2 w w3.heap.size w4.heap.size (.slice a0 R.length c0) (.slice a5 R.length c5) R w11 := by
    refine ⟨?_, T10.r0.kept hg11 (by cases hz : (Value.slice a0 R.length c0).ownBlock with | none => exact .inl rfl | some i => exact .inr (by rw [← hz]; intro e; exact hne i hz (by rw [← e]; exact hz))), ho11⟩
    have h34 := hs34
    exact T10.b.grown hg11 T10.b.size (fun i hi => by have := (T10.r5.lt i hi).1; omega)
  clear T10 hg11 ho11 hm hne
  have hh := heldIntS_any _ 1 R.length _ w11 (by omega) (by omega) T11.r5
  go_wp2_with fail
  refine hh.mono ?_
  rintro e w12 ⟨rfl, hb12⟩
  have T12 := T11.keep hb12
  clear T11 hb12 hh
  go_wp2_with fail
  refine (hto _ T12.b).mono ?_
  rintro e w13 ⟨v13, rfl, ho13, hb13⟩
  have T13 := T12.keep hb13
  have hI := implPathOf_any v13 ls n nm _ w13 hle hs HF.out ho13
  clear T12 hb13 ho13
  go_wp2_with fail
  refine hI.mono ?_
  rintro e w14 ⟨u14, R', rfl, hR', hr14, hb14⟩
  obtain rfl : R = R' := HR.out.one hR'
  rw [rowI_ints] at hr14
  have T14 := T13.keep hb14
  have hq := eqIntS_same _ _ R _ _ w14 (by omega) hr14 T14.r0
  obtain ⟨a14, c14, hv14⟩ := own_len hr14
  subst hv14
  clear T13 hb14 hI hR' hr14
  go_wp2_with fail
  refine hq.mono ?_
  rintro e w15 ⟨rfl, hb15⟩
  have T15 := T14.keep hb15
  clear T14 hb15 hq
  have hh := heldIntS_any _ 1 R.length _ w15 (by omega) (by omega) T15.r5
  go_wp2_with fail
  refine hh.mono ?_
  rintro e w16 ⟨rfl, hb16⟩
  have HO := hid (T15.keep hb16).b
  clear T15 hb16 hh
  go_wp2_with fail
  go_ret
  exact ⟨rfl, HO.out⟩

set_option maxRecDepth 100000 in
theorem lifted (os : Os) (started : os.Started) (H : Type) (enc : TypeId × Value → H) :
    ReturnsInHanded {} Try.checked os 3 .any (Rows.fnExactPathOfSpec.pre6 enc Try.prog Try.f3 Rows.fnExactPathOfRow.domain false) (Rows.fnExactPathOfSpec.post enc Try.prog Try.f3 false true false false) := by
  refine returnsInHanded_of_change (C := Try.checked) own started (by kernel_rfl) Try.func3
    (ChangeSpec.witness6 (enc := enc) (C := Try.checked) false ⟨#[], #[.slice none 0 0, .int .i64 0, .string ⟨#[]⟩], []⟩ 8 (by kernel_rfl) (by kernel_rfl) (by kernel_rfl) (by kernel_rfl)) ?_
  intro W base args ds gs before hval0 hW hcnd _
  have hval : ∀ (j : Nat) t v, Try.f3.params[j]? = some t → args[j]? = some v → Value.okWide Try.prog W .any base t v := hval0
  have hW' := hW
  obtain ⟨p, q, hA0, hV, rfl, hfz, hnd⟩ := hW
  have hA : DataW.TrodAll enc Try.prog W 0 (fun _ => true) true Try.f3.params.toList args.toList ds p := hA0
  rw [Try.params3] at hA hval
  obtain ⟨v0, vs0, d0, ds0, p0, q0, hargs0, rfl, rfl, h0, r0⟩ := trodAll_cons hA
  obtain ⟨v1, vs1, d1, ds1, p1, q1, hargs1, rfl, rfl, h1, r1⟩ := trodAll_cons r0
  obtain ⟨v2, vs2, d2, ds2, p2, q2, hargs2, rfl, rfl, h2, r2⟩ := trodAll_cons r1
  obtain ⟨rfl, rfl, rfl⟩ := trodAll_nil r2
  obtain rfl : args = #[v0, v1, v2] := by cases args; simp_all
  obtain ⟨rfl, rfl⟩ := trodVars_none hV
  obtain ⟨al, ll, cl, rfl⟩ := okWide_slice Try.underlying22 (hval 0 22 v0 rfl rfl)
  have k0 := h0
  have lt0 : ∀ x ∈ p0, x.block < W.heap.size := by obtain ⟨m, hm⟩ := k0; exact DataW.trod_lt m _ _ _ hm
  obtain ⟨hm, ls, hLS⟩ : ll ≤ maxLen ∧ ∃ ls, ArgLS W al ll ls := by
    obtain ⟨fuel, hf⟩ := h0
    exact loaders_of (by simpa [Value.cells] using hf)
  obtain ⟨n1, rfl, rfl, rfl, wf1⟩ := open_int Try.underlying3 (hval 1 3 v1 rfl rfl) h1
  obtain ⟨s2, rfl, rfl, rfl, sz2⟩ := open_string Try.underlying9 (hval 2 9 v2 rfl rfl) h2
  clear hA0 hval0
  refine (walk ls al ll cl n1 s2 W hm sz2 hLS).mono fun e W' ⟨he, bel⟩ => ?_
  subst he
  exact ⟨_, rfl, _, _, _, [], _, [], hW', trodAll_mk1 (shut_bool Try.underlying4 _), (trodAll_cons_mk (Below.trod laidOut (by kernel_rfl) (of_decide_eq_true (by kernel_rfl)) k0 bel lt0) (trodAll_cons_mk (shut_int Try.underlying3 wf1) (trodAll_cons_mk (shut_string Try.underlying9 sz2) trodAll_mk0))), rfl, bel.frame _, fun h => by cases h⟩

theorem over : Rows.fnExactPathOfRow.holds Try.pinned (OpenSpec.ofChange Rows.fnExactPathOfSpec) :=
  OpenClaim.holds_of_wide 3 Try.f3 rfl rfl rfl rfl rfl rfl rfl ⟨rfl, rfl, rfl, rfl, rfl⟩ rfl rfl rfl rfl rfl (by kernel_rfl) Try.func3 (by kernel_rfl)
    (of_decide_eq_true (by kernel_rfl)) (by unfold Func.isWrapper; first | (rw [if_pos (by decide +kernel)]; kernel_rfl) | (rw [if_neg (by decide +kernel)]; exact ⟨rfl, rfl⟩))
    (fun os started H enc _ => lifted os started H enc)

end Go.Proofs.Ytjhmjjechagbjaa.fnExactPathOf
namespace Go.Proofs.Ytjhmjjechagbjaa
theorem fnExactPathOfHolds : Rows.FnExactPathOfSaid := fnExactPathOf.over
end Go.Proofs.Ytjhmjjechagbjaa
