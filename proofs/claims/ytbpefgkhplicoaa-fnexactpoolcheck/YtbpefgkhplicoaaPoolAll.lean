/- The specification's PoolCheck, and the code's. -/
import Derived.Test.YtbpefgkhplicoaaPoolEntryTwo
import Derived.Test.YtbpefgkhplicoaaPoolDoes
namespace Go.Proofs.Ytbpefgkhplicoaa
open Mx Go.RowKit
set_option maxHeartbeats 1000000
set_option maxRecDepth 20000
set_option linter.unusedVariables false

theorem l2Entry_any (v : Value) (ts : List C4) (k : Nat) (hk : k < ts.length) (w : World) (hl : ts.length ≤ 1048576) (hs : ∀ t ∈ ts, t.text.size ≤ 1048576) (h : PoolW w v ts) :
    Calls Try.prog 10 #[v, .int .i64 k] w fun e w' => e = .returned (.bool (okC ts ts[k])) ∧ Below w.heap.size w w' := by
  by_cases h1 : ts[k].kind = 1
  · exact l2Entry_1 v ts k hk w hl hs h h1
  · by_cases h2 : ts[k].kind = 2
    · exact l2Entry_2 v ts k hk w hl hs h h2
    · by_cases h3 : ts[k].kind = 3
      · exact l2Entry_3 v ts k hk w hl hs h h3
      · exact l2Entry_4 v ts k hk w hl hs h h1 h2 h3

theorem pool_bad {ts : List C4} {n k : Nat} (hn : k + (n + 1) = 60) (h : k < ts.length) (hB : badC ts 60 0 = badC ts (n + 1) k) (ho : okC ts ts[k] = false) : poolC ts = (k : Int) + 1 := by
  unfold poolC
  rw [hB, badC_step hn h, ho]
  rfl
theorem pool_go {ts : List C4} {n k : Nat} (hn : k + (n + 1) = 60) (h : k < ts.length) (hB : badC ts 60 0 = badC ts (n + 1) k) (ho : okC ts ts[k] = true) : badC ts 60 0 = badC ts n (k + 1) := by
  rw [hB, badC_step hn h, ho]
  rfl
theorem pool_end {ts : List C4} {n k : Nat} (hB : badC ts 60 0 = badC ts n k) (h : ¬ k < ts.length ∨ ¬ k < 60) : poolC ts = if 60 < ts.length then 61 else 0 := by
  unfold poolC
  rw [hB, badC_end h]

theorem specPoolCheck_any (v : Value) (ts : List C4) (w : World) (hl : ts.length ≤ 1048576) (hs : ∀ t ∈ ts, t.text.size ≤ 1048576) (h : PoolW w v ts) :
    Calls Try.prog 5 #[v] w fun e w' => e = .returned (.int .i64 (poolC ts)) ∧ Below w.heap.size w w' := by
  have hE := fun k hk W hW => l2Entry_any v ts k hk W hl hs hW
  have HP := hid h
  obtain ⟨ao, cap, rfl⟩ := h.len
  clear h hs
  go_enter Try.func5, Try.ntmps5
  go_wp2
  go_loopw [3] (fun i wr => ∃ (k n : Nat), k + n = 60 ∧ k ≤ ts.length ∧ i = .int .i64 k ∧ Hid (badC ts 60 0 = badC ts n k) ∧ Below w.heap.size w wr) (fun i _ => 60 - (intOf i).toNat)
  case atStart => exact ⟨0, 60, by omega, by omega, rfl, rfl, Below.refl _ _⟩
  case round =>
    obtain ⟨k, n, hkn, hk, rfl, HB, hbel⟩ := hrel
    by_cases hlt : k < ts.length
    · by_cases h60 : k < 60
      · obtain ⟨m, rfl⟩ : ∃ m, n = m + 1 := ⟨n - 1, by omega⟩
        have hE' := hE k hlt wr (HP.out.keep hbel)
        cases ho : okC ts ts[k] with
        | true =>
          rw [ho] at hE'
          have HN := hid (pool_go hkn hlt HB.out ho)
          clear HB ho hE
          go_wp2_with (go_at_call 10; refine hE'.mono ?_; rintro e w1 ⟨rfl, hb1⟩)
          go_roundw
          case rel => exact ⟨k + 1, m, by omega, by omega, by go_num, HN.out, hbel.trans (hb1.mono hbel.size)⟩
          case measure => simp [intOf]; omega
        | false =>
          rw [ho] at hE'
          have HN := hid (pool_bad hkn hlt HB.out ho)
          clear HB ho hE
          go_wp2_with (go_at_call 10; refine hE'.mono ?_; rintro e w1 ⟨rfl, hb1⟩)
          go_ret
          exact ⟨ret_i64 HN.out.symm, hbel.trans (hb1.mono hbel.size)⟩
      · have HN := hid (pool_end HB.out (.inr h60))
        clear HB hE
        have h6 : (60 : Int) < ts.length := by omega
        go_wp2
        go_ret
        exact ⟨ret_i64 (by rw [HN.out, if_pos (by omega)]), hbel⟩
    · have HN := hid (pool_end HB.out (.inl hlt))
      clear HB hE
      have h6 : ¬ (60 : Int) < ts.length := by omega
      go_wp2
      go_ret
      exact ⟨ret_i64 (by rw [HN.out, if_neg (by omega)]), hbel⟩

theorem PoolCheck_any (v : Value) (ts : List C4) (w : World) (hl : ts.length ≤ 1048576) (hs : ∀ t ∈ ts, t.text.size ≤ 1048576) (h : PoolW w v ts) :
    Calls Try.prog 7 #[v] w fun e w' => e = .returned (.int .i64 (poolC ts)) ∧ Below w.heap.size w w' := by
  have hA := entriesOf_any v ts w hl h
  obtain ⟨ao, cap, rfl⟩ := h.len
  clear h
  go_enter Try.func7, Try.ntmps7
  go_wp2_with fail
  refine hA.mono ?_
  rintro e w0 ⟨lv, rfl, hL, hb0⟩
  have HL := hid hL
  obtain ⟨ao', cap', rfl⟩ := hL.len
  clear hL hA
  go_wp2
  obtain ⟨M, hM⟩ : ∃ M : Nat, M = min ts.length 60 := ⟨_, rfl⟩
  have hm : min (ts.length : Int) 60 = (M : Int) := by omega
  rw [hm]
  have hM1 : M ≤ ts.length := by omega
  have hM2 : M ≤ 60 := by omega
  have HM : Hid (M = ts.length ∨ M = 60) := by unfold Hid; omega
  clear hm hM
  go_loopw [10] (fun i wr => ∃ (k n : Nat), k + n = 60 ∧ k ≤ M ∧ i = .int .i64 k ∧ Hid (badC ts 60 0 = badC ts n k) ∧ Below w0.heap.size w0 wr) (fun i _ => 60 - (intOf i).toNat)
  case atStart => exact ⟨0, 60, by omega, by omega, rfl, rfl, Below.refl _ _⟩
  case round =>
    obtain ⟨k, n, hkn, hk, rfl, HB, hbel⟩ := hrel
    by_cases hkM : k < M
    · have hlt : k < ts.length := by omega
      obtain ⟨m, rfl⟩ : ∃ m, n = m + 1 := ⟨n - 1, by omega⟩
      obtain ⟨g, c, hv, hc⟩ := (HL.out.keep hbel).at hlt
      obtain ⟨rfl, _, rfl⟩ : ao' = some ⟨g, 0, none⟩ ∧ True ∧ cap' = c := by simp at hv; exact ⟨hv.1, trivial, hv.2⟩
      clear hv
      by_cases h1 : ts[k].kind = 1
      · have e1 : ifc ts[k] = .iface 57 (.agg #[.string ts[k].text, .bool (decide (ts[k].a = 0) && decide (ts[k].b = 0))]) := by unfold ifc; rw [if_pos h1]
        rw [e1] at hc
        have hF := fineName_any (.slice (some ⟨g, 0, none⟩) ts.length cap') ts[k].text (decide (ts[k].a = 0) && decide (ts[k].b = 0)) wr (hs _ (List.getElem_mem _)) ⟨_, _, _, rfl⟩
        have ho := (rfl : okC ts ts[k] = okC ts ts[k])
        conv at ho => rhs; unfold okC; rw [if_pos h1]
        rw [← ho] at hF
        clear e1 ho
        cases ho : okC ts ts[k] with
        | true =>
          rw [ho] at hF
          have HN := hid (pool_go hkn hlt HB.out ho)
          clear HB ho
          generalize ts[k].text = tx at hc hF
          generalize (decide (ts[k].a = 0) && decide (ts[k].b = 0)) = bx at hc hF
          go_wp2_with (go_at_call 42; refine hF.mono ?_; rintro e w1 ⟨rfl, hb1⟩)
          go_roundw
          case rel => exact ⟨k + 1, m, by omega, by omega, by go_num, HN.out, hbel.trans (hb1.mono hbel.size)⟩
          case measure => simp [intOf]; omega
        | false =>
          rw [ho] at hF
          have HN := hid (pool_bad hkn hlt HB.out ho)
          clear HB ho
          generalize ts[k].text = tx at hc hF
          generalize (decide (ts[k].a = 0) && decide (ts[k].b = 0)) = bx at hc hF
          go_wp2_with (go_at_call 42; refine hF.mono ?_; rintro e w1 ⟨rfl, hb1⟩)
          go_ret
          exact ⟨ret_i64 HN.out.symm, hb0.trans ((hbel.trans (hb1.mono hbel.size)).mono hb0.size)⟩
      · by_cases h2 : ts[k].kind = 2
        · have e1 : ifc ts[k] = .iface 59 (.agg #[.int .i64 ts[k].a, .bool (ts[k].text.toList.isEmpty && decide (ts[k].b = 0))]) := by unfold ifc; rw [if_neg h1, if_pos h2]
          rw [e1] at hc
          have hF := fineClass_any (.slice (some ⟨g, 0, none⟩) ts.length cap') ts ts[k].a (ts[k].text.toList.isEmpty && decide (ts[k].b = 0)) wr hl hs (HL.out.keep hbel)
          have ho := (rfl : okC ts ts[k] = okC ts ts[k])
          conv at ho => rhs; unfold okC; rw [if_neg h1, if_pos h2]
          rw [← ho] at hF
          clear e1 ho
          cases ho : okC ts ts[k] with
          | true =>
            rw [ho] at hF
            have HN := hid (pool_go hkn hlt HB.out ho)
            clear HB ho
            generalize (ts[k].text.toList.isEmpty && decide (ts[k].b = 0)) = bx at hc hF
            generalize ts[k].a = a at hc hF
            go_wp2_with (go_at_call 57; refine hF.mono ?_; rintro e w1 ⟨rfl, hb1⟩)
            go_roundw
            case rel => exact ⟨k + 1, m, by omega, by omega, by go_num, HN.out, hbel.trans (hb1.mono hbel.size)⟩
            case measure => simp [intOf]; omega
          | false =>
            rw [ho] at hF
            have HN := hid (pool_bad hkn hlt HB.out ho)
            clear HB ho
            generalize (ts[k].text.toList.isEmpty && decide (ts[k].b = 0)) = bx at hc hF
            generalize ts[k].a = a at hc hF
            go_wp2_with (go_at_call 57; refine hF.mono ?_; rintro e w1 ⟨rfl, hb1⟩)
            go_ret
            exact ⟨ret_i64 HN.out.symm, hb0.trans ((hbel.trans (hb1.mono hbel.size)).mono hb0.size)⟩
        · by_cases h3 : ts[k].kind = 3
          · have e1 : ifc ts[k] = .iface 61 (.agg #[.int .i64 ts[k].a, .int .i64 ts[k].b, .bool ts[k].text.toList.isEmpty]) := by unfold ifc; rw [if_neg h1, if_neg h2, if_pos h3]
            rw [e1] at hc
            have hF := finePair_any (.slice (some ⟨g, 0, none⟩) ts.length cap') ts ts[k].a ts[k].b ts[k].text.toList.isEmpty wr hl hs (HL.out.keep hbel)
            have ho := (rfl : okC ts ts[k] = okC ts ts[k])
            conv at ho => rhs; unfold okC; rw [if_neg h1, if_neg h2, if_pos h3]
            rw [← ho] at hF
            clear e1 ho
            cases ho : okC ts ts[k] with
            | true =>
              rw [ho] at hF
              have HN := hid (pool_go hkn hlt HB.out ho)
              clear HB ho
              generalize ts[k].text.toList.isEmpty = bx at hc hF
              generalize ts[k].a = a at hc hF
              generalize ts[k].b = b at hc hF
              go_wp2_with (go_at_call 63; refine hF.mono ?_; rintro e w1 ⟨rfl, hb1⟩)
              go_roundw
              case rel => exact ⟨k + 1, m, by omega, by omega, by go_num, HN.out, hbel.trans (hb1.mono hbel.size)⟩
              case measure => simp [intOf]; omega
            | false =>
              rw [ho] at hF
              have HN := hid (pool_bad hkn hlt HB.out ho)
              clear HB ho
              generalize ts[k].text.toList.isEmpty = bx at hc hF
              generalize ts[k].a = a at hc hF
              generalize ts[k].b = b at hc hF
              go_wp2_with (go_at_call 63; refine hF.mono ?_; rintro e w1 ⟨rfl, hb1⟩)
              go_ret
              exact ⟨ret_i64 HN.out.symm, hb0.trans ((hbel.trans (hb1.mono hbel.size)).mono hb0.size)⟩
          · by_cases h4 : ts[k].kind = 4
            · have e1 : ifc ts[k] = .iface 63 (.agg #[.int .i64 ts[k].a, .int .i64 ts[k].b, .bool ts[k].text.toList.isEmpty]) := by unfold ifc; rw [if_neg h1, if_neg h2, if_neg h3, if_pos h4]
              rw [e1] at hc
              have hF := fineField_any (.slice (some ⟨g, 0, none⟩) ts.length cap') ts ts[k].a ts[k].b ts[k].text.toList.isEmpty wr hl hs (HL.out.keep hbel)
              have ho := (rfl : okC ts ts[k] = okC ts ts[k])
              conv at ho => rhs; unfold okC; rw [if_neg h1, if_neg h2, if_neg h3, if_pos h4]
              rw [← ho] at hF
              clear e1 ho
              cases ho : okC ts ts[k] with
              | true =>
                rw [ho] at hF
                have HN := hid (pool_go hkn hlt HB.out ho)
                clear HB ho
                generalize ts[k].text.toList.isEmpty = bx at hc hF
                generalize ts[k].a = a at hc hF
                generalize ts[k].b = b at hc hF
                go_wp2_with (go_at_call 65; refine hF.mono ?_; rintro e w1 ⟨rfl, hb1⟩)
                go_roundw
                case rel => exact ⟨k + 1, m, by omega, by omega, by go_num, HN.out, hbel.trans (hb1.mono hbel.size)⟩
                case measure => simp [intOf]; omega
              | false =>
                rw [ho] at hF
                have HN := hid (pool_bad hkn hlt HB.out ho)
                clear HB ho
                generalize ts[k].text.toList.isEmpty = bx at hc hF
                generalize ts[k].a = a at hc hF
                generalize ts[k].b = b at hc hF
                go_wp2_with (go_at_call 65; refine hF.mono ?_; rintro e w1 ⟨rfl, hb1⟩)
                go_ret
                exact ⟨ret_i64 HN.out.symm, hb0.trans ((hbel.trans (hb1.mono hbel.size)).mono hb0.size)⟩
            · by_cases h5 : ts[k].kind = 5 ∨ ts[k].kind = 6
              · have e1 : ifc ts[k] = .iface 64 (.agg #[.int .i64 ts[k].a, .int .i64 ts[k].b, .bool ts[k].text.toList.isEmpty]) := by unfold ifc; rw [if_neg h1, if_neg h2, if_neg h3, if_neg h4, if_pos h5]
                rw [e1] at hc
                have hF := fineMethod_any (.slice (some ⟨g, 0, none⟩) ts.length cap') ts ts[k].a ts[k].b ts[k].text.toList.isEmpty wr hl hs (HL.out.keep hbel)
                have ho := (rfl : okC ts ts[k] = okC ts ts[k])
                conv at ho => rhs; unfold okC; rw [if_neg h1, if_neg h2, if_neg h3, if_neg h4, if_pos h5]
                rw [← ho] at hF
                clear e1 ho
                cases ho : okC ts ts[k] with
                | true =>
                  rw [ho] at hF
                  have HN := hid (pool_go hkn hlt HB.out ho)
                  clear HB ho
                  generalize ts[k].text.toList.isEmpty = bx at hc hF
                  generalize ts[k].a = a at hc hF
                  generalize ts[k].b = b at hc hF
                  go_wp2_with (go_at_call 68; refine hF.mono ?_; rintro e w1 ⟨rfl, hb1⟩)
                  go_roundw
                  case rel => exact ⟨k + 1, m, by omega, by omega, by go_num, HN.out, hbel.trans (hb1.mono hbel.size)⟩
                  case measure => simp [intOf]; omega
                | false =>
                  rw [ho] at hF
                  have HN := hid (pool_bad hkn hlt HB.out ho)
                  clear HB ho
                  generalize ts[k].text.toList.isEmpty = bx at hc hF
                  generalize ts[k].a = a at hc hF
                  generalize ts[k].b = b at hc hF
                  go_wp2_with (go_at_call 68; refine hF.mono ?_; rintro e w1 ⟨rfl, hb1⟩)
                  go_ret
                  exact ⟨ret_i64 HN.out.symm, hb0.trans ((hbel.trans (hb1.mono hbel.size)).mono hb0.size)⟩
              · have e1 : ifc ts[k] = .iface 66 (.agg #[]) := by unfold ifc; rw [if_neg h1, if_neg h2, if_neg h3, if_neg h4, if_neg h5]
                rw [e1] at hc
                have hF := fineStray_any (.slice (some ⟨g, 0, none⟩) ts.length cap') wr ⟨_, _, _, rfl⟩
                have ho : okC ts ts[k] = false := by unfold okC; rw [if_neg h1, if_neg h2, if_neg h3, if_neg h4, if_neg h5]
                rw [← ho] at hF
                clear e1 ho
                cases ho : okC ts ts[k] with
                | true =>
                  rw [ho] at hF
                  have HN := hid (pool_go hkn hlt HB.out ho)
                  clear HB ho
                  go_wp2_with (go_at_call 69; refine hF.mono ?_; rintro e w1 ⟨rfl, hb1⟩)
                  go_roundw
                  case rel => exact ⟨k + 1, m, by omega, by omega, by go_num, HN.out, hbel.trans (hb1.mono hbel.size)⟩
                  case measure => simp [intOf]; omega
                | false =>
                  rw [ho] at hF
                  have HN := hid (pool_bad hkn hlt HB.out ho)
                  clear HB ho
                  go_wp2_with (go_at_call 69; refine hF.mono ?_; rintro e w1 ⟨rfl, hb1⟩)
                  go_ret
                  exact ⟨ret_i64 HN.out.symm, hb0.trans ((hbel.trans (hb1.mono hbel.size)).mono hb0.size)⟩
    · have HN := hid (pool_end HB.out (by have := HM.out; omega))
      clear HB
      by_cases h6 : (60 : Int) < ts.length
      · go_wp2
        go_ret
        exact ⟨ret_i64 (by rw [HN.out, if_pos (by omega)]), hb0.trans (hbel.mono hb0.size)⟩
      · go_wp2
        go_ret
        exact ⟨ret_i64 (by rw [HN.out, if_neg (by omega)]), hb0.trans (hbel.mono hb0.size)⟩

end Go.Proofs.Ytbpefgkhplicoaa
