/- Proved: the law FnExactPoolCheck returns true at every list of entries and leaves its argument as it was: PoolCheck of the program answers as the specification's, at every argument, and writes into none. No condition. -/
import Derived.Test.YtbpefgkhplicoaaRows
import Derived.Test.YtbpefgkhplicoaaConstEq
import Derived.Test.YtbpefgkhplicoaaPoolAll
import Derived.Deep.Slices
import Derived.Deep.Strs
import Derived.Lib.SmallJoins
import Derived.WalkKit
import Derived.ProofKit
import Derived.OpenShut
import Derived.ShutString
namespace Go.Proofs.Ytbpefgkhplicoaa.fnExactPoolCheck
open Go.ChangeShapes Go.WideShapes Go.ChangeAt Go.RowKit
open Go.ChangeMaps (open_string shut_string)
set_option linter.unusedVariables false
set_option maxHeartbeats 400000
open Mx Go.RowKit

theorem own : ownKnob Try.prog.godebug = none := by kernel_rfl
theorem laidOut : laidOutB Try.prog = true := by kernel_rfl
theorem cellsI : Try.prog.cellsOf 3 = 1 := by kernel_rfl
theorem cellsS : Try.prog.cellsOf 9 = 1 := by kernel_rfl
theorem cellsC4 : Try.prog.cellsOf 31 = 4 := by kernel_rfl

theorem exists_list {P : Nat → C4 → Prop} : ∀ (n : Nat), (∀ i, i < n → ∃ a, P i a) → ∃ l : List C4, l.length = n ∧ ∀ k (h : k < l.length), P k l[k]
  | 0, _ => ⟨[], rfl, fun k h => by simp at h⟩
  | n + 1, h => by
    obtain ⟨l, hl, hp⟩ := exists_list n (fun i hi => h i (by omega))
    obtain ⟨a, ha⟩ := h n (by omega)
    refine ⟨l ++ [a], by simp [hl], fun k hk => ?_⟩
    by_cases hkn : k < n
    · rw [List.getElem_append_left (by omega)]; exact hp k (by omega)
    · have : k = l.length := by simp at hk; omega
      subst this
      rw [List.getElem_append_right (Nat.le_refl _)]
      simp; rw [hl]; exact ha

/-- what the reading of the argument gives -/
theorem arg_of {H : Type} {enc : TypeId × Value → H} {W : World} {fuel : Nat} {ao : Option Addr} {len cap : Nat} {x : DataW H × List MemPlace}
    (h : DataW.trod enc Try.prog W 0 (fun _ => true) true fuel 22 [.slice ao len cap] = some x) : len ≤ maxLen ∧ ∃ ts, ArgC W ao len ts := by
  rcases Go.Deep.open_slice Try.underlying22 h with ⟨hcs, _⟩ | ⟨a, len', cap', m, n, D, Pl, hcs, _, hl, hm, hmm, _, hx⟩
  · simp at hcs
    obtain ⟨rfl, rfl, rfl⟩ := hcs
    exact ⟨by unfold maxLen; omega, [], rfl, fun t ht => by simp at ht, .inl rfl⟩
  · simp at hcs
    obtain ⟨rfl, rfl, rfl⟩ := hcs
    refine ⟨by omega, ?_⟩
    by_cases h0 : len = 0
    · subst h0; exact ⟨[], rfl, fun t ht => by simp at ht, .inl rfl⟩
    · rw [cellsC4] at hx
      simp only [if_true] at hmm
      have key : ∀ i, i < len → ∃ t : C4, W.cell? (a.add (i * 4)) = some (.int .i64 t.kind) ∧ W.cell? ((a.add (i * 4)).add 1) = some (.string t.text) ∧ W.cell? ((a.add (i * 4)).add 2) = some (.int .i64 t.a) ∧ W.cell? ((a.add (i * 4)).add 3) = some (.int .i64 t.b) ∧ t.text.size ≤ maxLen := by
        intro i hi
        obtain ⟨cs', h1, h2⟩ := hx i (by omega)
        obtain ⟨_, hlen, hc⟩ := World.cells?_some h1
        obtain ⟨y0, y1, y2, y3, n', _, _, e0, e1, e2, e3⟩ := Joins.trod_struct4 Try.underlying31 h2
        obtain ⟨p0, q0, _, _⟩ := DataW.trod_int Try.underlying3 e0
        obtain ⟨p1, q1, _, hz⟩ := DataW.trod_string Try.underlying9 e1
        obtain ⟨p2, q2, _, _⟩ := DataW.trod_int Try.underlying3 e2
        obtain ⟨p3, q3, _, _⟩ := DataW.trod_int Try.underlying3 e3
        simp only [cellsI, cellsS] at q0 q1 q2 q3
        have g0 : cs'[0]? = some (.int .i64 p0) := by
          have := congrArg (·[0]?) q0; simpa [List.getElem?_take, List.getElem?_drop] using this
        have g1 : cs'[1]? = some (.string p1) := by
          have := congrArg (·[0]?) q1; simpa [List.getElem?_take, List.getElem?_drop] using this
        have g2 : cs'[2]? = some (.int .i64 p2) := by
          have := congrArg (·[0]?) q2; simpa [List.getElem?_take, List.getElem?_drop] using this
        have g3 : cs'[3]? = some (.int .i64 p3) := by
          have := congrArg (·[0]?) q3; simpa [List.getElem?_take, List.getElem?_drop] using this
        have c0 := hc 0 (by omega)
        have c1 := hc 1 (by omega)
        have c2 := hc 2 (by omega)
        have c3 := hc 3 (by omega)
        rw [g0] at c0
        rw [g1] at c1
        rw [g2] at c2
        rw [g3] at c3
        refine ⟨⟨p0, p1, p2, p3⟩, ?_, c1, c2, c3, hz⟩
        simpa [Addr.add] using c0
      obtain ⟨ts, hl2, hp⟩ := exists_list len key
      obtain ⟨b, off, spot⟩ := a
      have hspot : spot = none := by
        have := World.cell?_spot (hp 0 (by omega)).1
        simpa [Addr.add] using this
      subst hspot
      have hplain : ∀ o i, (⟨b, o, none⟩ : Addr).add i = ⟨b, o + i, none⟩ := fun o i => by unfold Addr.add; split <;> simp_all
      refine ⟨ts, hl2, fun t ht => ?_, .inr ⟨b, off, rfl, ?_, fun k hk => ?_⟩⟩
      · obtain ⟨k, hk, rfl⟩ := List.getElem_of_mem ht
        exact (hp k hk).2.2.2.2
      · have := World.block_lt_of_cell? W _ (hp 0 (by omega)).1
        rw [hplain] at this
        exact this
      · have := hp k hk
        rw [hplain, hplain, hplain, hplain] at this
        exact ⟨this.1, this.2.1, this.2.2.1, this.2.2.2.1⟩

theorem walk (ao : Option Addr) (len cap : Nat) (ts : List C4) (hm : len ≤ maxLen) (w : World) (hA : ArgC w ao len ts) :
    Calls Try.prog 3 #[.slice ao len cap] w fun e w' => e = .returned (.bool true) ∧ Below w.heap.size w w' := by
  have hsz := szConstS_any ao len cap ts w hm hA
  have hlen := hA.1
  have HA : Hid (ArgC w ao len ts) := hA
  clear hA
  go_enter Try.func3, Try.ntmps3
  go_wp2_with fail
  refine hsz.mono ?_
  rintro e w0 ⟨n, rfl, hn, hb0⟩
  by_cases hneg : n < 0
  · clear hn hm
    go_wp2
    go_ret
    exact ⟨rfl, hb0⟩
  · obtain ⟨h, hs⟩ : len ≤ 1048576 ∧ ∀ t ∈ ts, t.text.size ≤ 1048576 := by
      rcases hn with hn | hn
      · exact absurd hn hneg
      · exact hn.2
    have HS := hid hs
    have hl : ts.length ≤ 1048576 := by omega
    have hto := fun w hA => toConstS_any ao len cap ts w h hA
    clear hn hs hm
    go_wp2_with fail
    refine (hto _ (HA.out.keep hb0)).mono ?_
    rintro e w1 ⟨v1, rfl, ho1, hb1⟩
    have hb01 : Below w.heap.size w w1 := hb0.trans (hb1.mono hb0.size)
    go_wp2_with fail
    refine (specPoolCheck_any v1 ts w1 hl HS.out ⟨_, ho1⟩).mono ?_
    rintro e w2 ⟨rfl, hb2⟩
    have hb12 : Below w.heap.size w w2 := hb01.trans (hb2.mono hb01.size)
    go_wp2_with fail
    refine (hto _ (HA.out.keep hb12)).mono ?_
    rintro e w3 ⟨v3, rfl, ho3, hb3⟩
    have hb13 : Below w.heap.size w w3 := hb12.trans (hb3.mono hb12.size)
    go_wp2_with fail
    refine (PoolCheck_any v3 ts w3 hl HS.out ⟨_, ho3⟩).mono ?_
    rintro e w4 ⟨rfl, hb4⟩
    have hb14 : Below w.heap.size w w4 := hb13.trans (hb4.mono hb13.size)
    generalize poolC ts = R
    go_wp2_with fail
    refine (hto _ (HA.out.keep hb14)).mono ?_
    rintro e w5 ⟨v5, rfl, ho5, hb5⟩
    have hb15 : Below w.heap.size w w5 := hb14.trans (hb5.mono hb14.size)
    go_wp2_with fail
    refine (eqConstS_same v3 v5 ts _ _ w5 (by omega) (own_below (own_below ho3 hb4) hb5) ho5).mono ?_
    rintro e w6 ⟨rfl, hb6⟩
    have HB : Hid (Below w.heap.size w w6) := hb15.trans (hb6.mono hb15.size)
    clear hb0 hb01 hb1 hb2 hb3 hb4 hb5 hb6 hb12 hb13 hb14 hb15 ho1 ho3 ho5 hto
    go_wp2
    go_ret
    exact ⟨rfl, HB.out⟩

set_option maxRecDepth 100000 in
theorem lifted (os : Os) (started : os.Started) (H : Type) (enc : TypeId × Value → H) :
    ReturnsInHanded {} Try.checked os 3 .any (Rows.fnExactPoolCheckSpec.pre6 enc Try.prog Try.f3 Rows.fnExactPoolCheckRow.domain false) (Rows.fnExactPoolCheckSpec.post enc Try.prog Try.f3 false true false false) := by
  refine returnsInHanded_of_change (C := Try.checked) own started (by kernel_rfl) Try.func3
    (ChangeSpec.witness6 (enc := enc) (C := Try.checked) false ⟨#[], #[.slice none 0 0], []⟩ 8 (by kernel_rfl) (by kernel_rfl) (by kernel_rfl) (by kernel_rfl)) ?_
  intro W base args ds gs before hval0 hW hcnd _
  have hval : ∀ (j : Nat) t v, Try.f3.params[j]? = some t → args[j]? = some v → Value.okWide Try.prog W .any base t v := hval0
  have hW' := hW
  obtain ⟨p, q, hA0, hV, rfl, hfz, hnd⟩ := hW
  have hA : DataW.TrodAll enc Try.prog W 0 (fun _ => true) true Try.f3.params.toList args.toList ds p := hA0
  rw [Try.params3] at hA hval
  obtain ⟨v0, vs0, d0, ds0, p0, q0, hargs, rfl, rfl, h0, r0⟩ := trodAll_cons hA
  obtain ⟨rfl, rfl, rfl⟩ := trodAll_nil r0
  obtain rfl : args = #[v0] := by cases args; simp_all
  obtain ⟨rfl, rfl⟩ := trodVars_none hV
  obtain ⟨ao, len, cap, rfl⟩ := okWide_slice Try.underlying22 (hval 0 22 v0 rfl rfl)
  have k0 := h0
  have lt0 : ∀ x ∈ p0, x.block < W.heap.size := by obtain ⟨m, hm⟩ := k0; exact DataW.trod_lt m _ _ _ hm
  obtain ⟨hm, ts, hA3⟩ : len ≤ maxLen ∧ ∃ ts, ArgC W ao len ts := by
    obtain ⟨fuel, hf⟩ := h0
    exact arg_of (by simpa [Value.cells] using hf)
  clear hA0 hval0
  refine (walk ao len cap ts hm W hA3).mono fun e W' ⟨he, bel⟩ => ?_
  subst he
  exact ⟨_, rfl, _, _, _, [], _, [], hW', trodAll_mk1 (shut_bool Try.underlying4 _), (trodAll_cons_mk (Below.trod laidOut (by kernel_rfl) (of_decide_eq_true (by kernel_rfl)) k0 bel lt0) trodAll_mk0), rfl, bel.frame _, fun h => by cases h⟩

theorem over : Rows.fnExactPoolCheckRow.holds Try.pinned (OpenSpec.ofChange Rows.fnExactPoolCheckSpec) :=
  OpenClaim.holds_of_wide 3 Try.f3 rfl rfl rfl rfl rfl rfl rfl ⟨rfl, rfl, rfl, rfl, rfl⟩ rfl rfl rfl rfl rfl (by kernel_rfl) Try.func3 (by kernel_rfl)
    (of_decide_eq_true (by kernel_rfl)) (by unfold Func.isWrapper; first | (rw [if_pos (by decide +kernel)]; kernel_rfl) | (rw [if_neg (by decide +kernel)]; exact ⟨rfl, rfl⟩))
    (fun os started H enc _ => lifted os started H enc)

end Go.Proofs.Ytbpefgkhplicoaa.fnExactPoolCheck
namespace Go.Proofs.Ytbpefgkhplicoaa
theorem fnExactPoolCheckHolds : Rows.FnExactPoolCheckSaid := fnExactPoolCheck.over
end Go.Proofs.Ytbpefgkhplicoaa
