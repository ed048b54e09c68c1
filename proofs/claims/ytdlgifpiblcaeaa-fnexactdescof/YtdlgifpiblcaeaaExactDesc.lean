/- Proved: the law FnExactDescOf returns true at every text and leaves its argument as it was: DescOf of the program answers as the specification's, at every argument; what it answers owns its memory, behind another call too. No condition. -/
import Derived.Test.YtdlgifpiblcaeaaRows
import Derived.Test.YtdlgifpiblcaeaaHeld
import Derived.WalkKit
import Derived.ProofKit
import Derived.OpenShut
import Derived.ShutString
namespace Go.Proofs.Ytdlgifpiblcaeaa.fnExactDescOf
open Go.ChangeShapes Go.WideShapes Go.ChangeAt Go.RowKit
open Go.ChangeMaps (open_string shut_string)
set_option linter.unusedVariables false
open Mx Go.RowKit

theorem own : ownKnob Try.prog.godebug = none := by kernel_rfl

/-! ### STEP 1: THE WALK: the Go text returns true. 'Grown w w'': the world has at most new blocks (Derived/RowKit3.lean). Part the cases AHEAD of 'go_enter' where a test parts the walk; take each callee by a contract of your own. -/
theorem walk (a0 : ByteArray) (w0 : a0.size ≤ maxLen) (w : World) :
    Calls Try.prog 7 #[.string a0] w fun e w' => e = .returned (.bool true) ∧ Below w.heap.size w w' := by
  unfold maxLen at w0
  by_cases h : 1048576 < a0.size
  · go_enter Try.func7, Try.ntmps7
    go_wp2
    go_ret
    exact ⟨rfl, Below.refl _ _⟩
  · have hm : a0.size ≤ 1048576 := by omega
    have hT := dTs_len a0
    generalize hdt : dTs a0 = ts at hT
    generalize hdb : dBack a0 = bk
    generalize hdo : dOk a0 = ok
    have hS : ∀ w, Calls Try.prog 16 #[.string a0] w fun e w' => ∃ v, e = .returned (.tuple #[v, .string bk, .bool ok]) ∧ w'.ownsRow w.heap.size 9 1 v ts.length (ts.map Value.string) ∧ Below w.heap.size w w' := by
      intro w; have := specDescOf_any a0 w hm; unfold DescPost at this; rw [hdt, hdb, hdo] at this; exact this
    have hI : ∀ w, Calls Try.prog 14 #[.string a0] w fun e w' => ∃ v, e = .returned (.tuple #[v, .string bk, .bool ok]) ∧ w'.ownsRow w.heap.size 9 1 v ts.length (ts.map Value.string) ∧ Below w.heap.size w w' := by
      intro w; have := DescOf_any a0 w hm; unfold DescPost at this; rw [hdt, hdb, hdo] at this; exact this
    clear hdt hdb hdo
    go_enter Try.func7, Try.ntmps7
    go_wp2_with (go_at_call 16; refine (hS _).mono ?_; rintro e w1 ⟨v1, rfl, ho1, hb1⟩)
    refine (hI _).mono ?_
    rintro e w2 ⟨v2, rfl, ho2, hb2⟩
    go_wp2_with fail
    refine (eqStringS_same v2 v1 ts _ _ w2 (by omega) ho2 (own_below ho1 hb2)).mono ?_
    rintro e w3 ⟨rfl, n3, rfl⟩
    go_wp2_with fail
    have hb3 : Below w1.heap.size w1 (w2.drewN n3) := below_drewN hb2 n3
    have ho3 := own_drewN ho2 n3
    refine (markStringS_any v2 1 ts w1.heap.size (w2.drewN n3) (by omega) (by omega) (by omega) ho3 hb3.size).mono ?_
    rintro e w4 ⟨rfl, ho4, hb4⟩
    go_wp2_with fail
    refine (heldStringS_any v2 1 ts.length w1.heap.size w4 (by omega) (by omega) (by omega) ho4).mono ?_
    rintro e w5 ⟨rfl, hb5⟩
    go_wp2_with fail
    refine (hI _).mono ?_
    rintro e w6 ⟨v3, rfl, ho6, hb6⟩
    go_wp2_with fail
    have hx1 : w6.ownsRow w.heap.size 9 1 v1 ts.length (ts.map Value.string) := own_below (own_below (own_belowB ho1 (hb3.trans hb4) (fun k hk => (ho1.lt k hk).2)) hb5) hb6
    refine (eqStringS_same v3 v1 ts _ _ w6 (by omega) ho6 hx1).mono ?_
    rintro e w7 ⟨rfl, n7, rfl⟩
    go_wp2_with fail
    have hx2 := own_drewN (own_below (own_below ho4 hb5) hb6) n7
    refine (heldStringS_any v2 1 ts.length w1.heap.size (w6.drewN n7) (by omega) (by omega) (by omega) hx2).mono ?_
    rintro e w8 ⟨rfl, hb8⟩
    have s1 := hb1.size
    have s3 := hb3.size
    have s4 := hb4.size
    have s5 := hb5.size
    have s6 := hb6.size
    have HB : Hid (Below w.heap.size w w8) :=
      (hb1.trans ((hb3.trans hb4).mono s1)).trans ((hb5.mono (by omega)).trans ((below_drewN (hb6.mono (by omega)) n7).trans (hb8.mono (by simp; omega))))
    clear s1 s3 s4 s5 s6 hb1 hb2 hb3 hb4 hb5 hb6 hb8 hx1 hx2 ho1 ho2 ho3 ho4 ho6
    go_wp2
    go_ret
    exact ⟨rfl, HB.out⟩

/-! ### THE ROW's STEP: WRITTEN OUT: LEAVE IT -/
set_option maxRecDepth 100000 in
theorem lifted (os : Os) (started : os.Started) (H : Type) (enc : TypeId × Value → H) :
    ReturnsInHanded {} Try.checked os 7 .any (Rows.fnExactDescOfSpec.pre6 enc Try.prog Try.f7 Rows.fnExactDescOfRow.domain false) (Rows.fnExactDescOfSpec.post enc Try.prog Try.f7 false true false false) := by
  refine returnsInHanded_of_change (C := Try.checked) own started (by kernel_rfl) Try.func7
    (ChangeSpec.witness6 (enc := enc) (C := Try.checked) false ⟨#[], #[.string ByteArray.empty], []⟩ 8 (by kernel_rfl) (by kernel_rfl) (by kernel_rfl) (by kernel_rfl)) ?_
  intro W base args ds gs before hval0 hW hcnd _
  have hval : ∀ (j : Nat) t v, Try.f7.params[j]? = some t → args[j]? = some v → Value.okWide Try.prog W .any base t v := hval0
  have hW' := hW
  obtain ⟨p, q, hA0, hV, rfl, hfz, hnd⟩ := hW
  have hA : DataW.TrodAll enc Try.prog W 0 (fun _ => true) true Try.f7.params.toList args.toList ds p := hA0
  rw [Try.params7] at hA hval
  obtain ⟨v0, vs0, d0, ds0, p0, q0, hargs, rfl, rfl, h0, r0⟩ := trodAll_cons hA
  obtain ⟨rfl, rfl, rfl⟩ := trodAll_nil r0
  obtain rfl : args = #[v0] := by cases args; simp_all
  obtain ⟨rfl, rfl⟩ := trodVars_none hV
  obtain ⟨a0, rfl, rfl, rfl, w0⟩ := open_string Try.underlying9 (hval 0 9 v0 rfl rfl) h0
  clear hA0 hval0
  refine (walk a0 w0 W).mono fun e W' ⟨he, bel⟩ => ?_
  subst he
  exact ⟨_, rfl, _, _, _, [], _, [], hW', trodAll_mk1 (shut_bool Try.underlying4 _), (trodAll_cons_mk (shut_string Try.underlying9 w0) trodAll_mk0), rfl, bel.frame _, fun h => by cases h⟩

theorem over : Rows.fnExactDescOfRow.holds Try.pinned (OpenSpec.ofChange Rows.fnExactDescOfSpec) :=
  OpenClaim.holds_of_wide 7 Try.f7 rfl rfl rfl rfl rfl rfl rfl ⟨rfl, rfl, rfl, rfl, rfl⟩ rfl rfl rfl rfl rfl (by kernel_rfl) Try.func7 (by kernel_rfl)
    (of_decide_eq_true (by kernel_rfl)) (by unfold Func.isWrapper; first | (rw [if_pos (by decide +kernel)]; kernel_rfl) | (rw [if_neg (by decide +kernel)]; exact ⟨rfl, rfl⟩))
    (fun os started H enc _ => lifted os started H enc)

end Go.Proofs.Ytdlgifpiblcaeaa.fnExactDescOf
namespace Go.Proofs.Ytdlgifpiblcaeaa
theorem fnExactDescOfHolds : Rows.FnExactDescOfSaid := fnExactDescOf.over
end Go.Proofs.Ytdlgifpiblcaeaa
