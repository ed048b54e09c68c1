/- Contracts of the specification's comparisons of lists: entries, kinds. -/
import Derived.Test.YtnejkkaicnbkoaaRowClass
namespace Go.Proofs.Ytnejkkaicnbkoaa
open Go.RowKit
set_option maxHeartbeats 1000000
set_option maxRecDepth 20000
set_option linter.unusedVariables false

theorem neq_l1Kinds {x0 y0 : Int} {x1 y1 : Int} (h : ((x0 == y0) = false) ∨ ((x0 == y0) = true ∧ (x1 == y1) = false)) (W : World) :
    (binOp .neq 144 (.agg #[.int .i64 x0, .int .i64 x1]) (.agg #[.int .i64 y0, .int .i64 y1])).run Try.prog W = .ok (.bool true) W := by
  rcases h with h0 | ⟨h0, h1⟩
  · go_simp
  · go_simp

theorem l1Kinds_any (v1 v2 : Value) (xs ts : List MKind) (B1 B2 : Nat) (w : World) (hx : xs.length ≤ 1048576) (hl : ts.length ≤ 1048576)
    (h1 : w.ownsRow B1 144 2 v1 xs.length (rowKind xs)) (h2 : w.ownsRow B2 144 2 v2 ts.length (rowKind ts)) :
    Calls Try.prog 108 #[v1, v2] w fun e w' => ∃ c : Bool, e = .returned (.bool c) ∧ (c = true ↔ xs = ts) ∧ ∃ q, w' = w.drewN q := by
  by_cases hn : xs.length = ts.length
  · obtain ⟨ao1, c1, hv1⟩ := own_len h1
    obtain ⟨ao2, c2, hv2⟩ := own_len h2
    subst hv1 hv2
    have H1 := hid h1
    have H2 := hid h2
    have HN := hid hn
    have hn' : ((xs.length : Int) != (ts.length : Int)) = false := by simp; omega
    clear h1 h2 hn
    go_enter Try.func108, Try.ntmps108
    go_wp2
    go_loopw [5] (fun i wr => ∃ k : Nat, k ≤ xs.length ∧ i = .int .i64 k ∧ Hid (xs.take k = ts.take k) ∧ Hid (∃ q, wr = w.drewN q)) (fun i _ => xs.length - (intOf i).toNat)
    case atStart => exact ⟨0, by omega, rfl, rfl, 0, rfl⟩
    case round =>
      obtain ⟨k, hk, rfl, HE, HQ⟩ := hrel
      by_cases hlt : k < xs.length
      · have hlt2 : k < ts.length := by rw [← HN.out]; exact hlt
        obtain ⟨g1, hg1⟩ := own_some H1.out (by omega)
        obtain ⟨g2, hg2⟩ := own_some H2.out (by omega)
        subst hg1 hg2
        obtain ⟨q0, hq0⟩ := HQ.out
        obtain ⟨a0, a1⟩ := ownKind_at (w := wr) (by rw [hq0]; exact own_drewN H1.out q0) hlt
        obtain ⟨b0, b1⟩ := ownKind_at (w := wr) (by rw [hq0]; exact own_drewN H2.out q0) hlt2
        clear hq0
        by_cases he : xs[k] = ts[k]
        · have HE2 := hid (show xs.take (k + 1) = ts.take (k + 1) from by rw [List.take_succ_eq_append_getElem hlt, List.take_succ_eq_append_getElem hlt2, HE.out, he])
          rw [he] at a0 a1
          clear he
          obtain ⟨x0, x1, hxyz⟩ : ∃ x0 x1, ts[k] = ⟨x0, x1⟩ := ⟨_, _, rfl⟩
          rw [hxyz] at a0 a1 b0 b1
          simp only at a0 a1 b0 b1
          clear hxyz
          go_wp2
          go_quiet (fail)
          go_wp2
          go_roundw
          case rel => exact ⟨k + 1, by omega, by go_num, HE2, drew_more HQ.out _⟩
          case measure => simp [intOf]; omega
        · have HF := hid (show ¬ xs = ts from fun e => he (by subst e; rfl))
          obtain ⟨x0, x1, hxyz⟩ : ∃ x0 x1, xs[k] = ⟨x0, x1⟩ := ⟨_, _, rfl⟩
          obtain ⟨y0, y1, hxyz'⟩ : ∃ y0 y1, ts[k] = ⟨y0, y1⟩ := ⟨_, _, rfl⟩
          rw [hxyz, hxyz'] at he
          rw [hxyz] at a0 a1
          rw [hxyz'] at b0 b1
          simp only at a0 a1 b0 b1
          clear hxyz hxyz'
          have hne : ((x0 == y0) = false) ∨ ((x0 == y0) = true ∧ (x1 == y1) = false) := by
            by_cases g0 : x0 = y0
            · by_cases g1 : x1 = y1
              · exact absurd (by rw [g0, g1]) he
              · exact .inr ⟨by simpa using g0, by simpa using g1⟩
            · exact .inl (by simpa using g0)
          have hrun := neq_l1Kinds hne
          clear he hne
          go_wp2
          go_quiet (fail)
          go_wp2
          go_ret
          exact ⟨false, rfl, ⟨fun h => by simp at h, fun h => absurd h HF.out⟩, drew_more HQ.out _⟩
      · have HF := hid (show xs = ts from by
          have := HE.out
          rw [List.take_of_length_le (by omega), List.take_of_length_le (by rw [← HN.out]; omega)] at this
          exact this)
        go_wp2
        go_ret
        exact ⟨true, rfl, ⟨fun _ => HF.out, fun _ => rfl⟩, HQ.out⟩
  · obtain ⟨ao1, c1, hv1⟩ := own_len h1
    obtain ⟨ao2, c2, hv2⟩ := own_len h2
    subst hv1 hv2
    have HF := hid (show ¬ xs = ts from fun e => hn (by rw [e]))
    have hn' : ((xs.length : Int) != (ts.length : Int)) = true := by simp; omega
    clear h1 h2 hn
    go_enter Try.func108, Try.ntmps108
    go_wp2
    go_ret
    exact ⟨false, rfl, ⟨fun h => by simp at h, fun h => absurd h HF.out⟩, 0, rfl⟩

theorem neq_l1Consts {x0 y0 : Int} {x1 y1 : ByteArray} {x2 y2 : Int} {x3 y3 : Int} (h : ((x0 == y0) = false) ∨ ((x0 == y0) = true ∧ (x1.toList == y1.toList) = false) ∨ ((x0 == y0) = true ∧ (x1.toList == y1.toList) = true ∧ (x2 == y2) = false) ∨ ((x0 == y0) = true ∧ (x1.toList == y1.toList) = true ∧ (x2 == y2) = true ∧ (x3 == y3) = false)) (W : World) :
    (binOp .neq 75 (.agg #[.int .i64 x0, .string x1, .int .i64 x2, .int .i64 x3]) (.agg #[.int .i64 y0, .string y1, .int .i64 y2, .int .i64 y3])).run Try.prog W = .ok (.bool true) W := by
  rcases h with h0 | ⟨h0, h1⟩ | ⟨h0, h1, h2⟩ | ⟨h0, h1, h2, h3⟩
  · go_simp
  · go_simp
  · go_simp
  · go_simp

theorem l1Consts_any (v1 v2 : Value) (xs ts : List C4) (B1 B2 : Nat) (w : World) (hx : xs.length ≤ 1048576) (hl : ts.length ≤ 1048576)
    (h1 : w.ownsRow B1 75 4 v1 xs.length (cellsC xs)) (h2 : w.ownsRow B2 75 4 v2 ts.length (cellsC ts)) :
    Calls Try.prog 60 #[v1, v2] w fun e w' => ∃ c : Bool, e = .returned (.bool c) ∧ (c = true ↔ xs = ts) ∧ ∃ q, w' = w.drewN q := by
  by_cases hn : xs.length = ts.length
  · obtain ⟨ao1, c1, hv1⟩ := own_len h1
    obtain ⟨ao2, c2, hv2⟩ := own_len h2
    subst hv1 hv2
    have H1 := hid h1
    have H2 := hid h2
    have HN := hid hn
    have hn' : ((xs.length : Int) != (ts.length : Int)) = false := by simp; omega
    clear h1 h2 hn
    go_enter Try.func60, Try.ntmps60
    go_wp2
    go_loopw [5] (fun i wr => ∃ k : Nat, k ≤ xs.length ∧ i = .int .i64 k ∧ Hid (xs.take k = ts.take k) ∧ Hid (∃ q, wr = w.drewN q)) (fun i _ => xs.length - (intOf i).toNat)
    case atStart => exact ⟨0, by omega, rfl, rfl, 0, rfl⟩
    case round =>
      obtain ⟨k, hk, rfl, HE, HQ⟩ := hrel
      by_cases hlt : k < xs.length
      · have hlt2 : k < ts.length := by rw [← HN.out]; exact hlt
        obtain ⟨g1, hg1⟩ := own_some H1.out (by omega)
        obtain ⟨g2, hg2⟩ := own_some H2.out (by omega)
        subst hg1 hg2
        obtain ⟨q0, hq0⟩ := HQ.out
        obtain ⟨a0, a1, a2, a3⟩ := cells4_at (w := wr) (by rw [hq0]; exact own_drewN H1.out q0) hlt
        obtain ⟨b0, b1, b2, b3⟩ := cells4_at (w := wr) (by rw [hq0]; exact own_drewN H2.out q0) hlt2
        clear hq0
        by_cases he : xs[k] = ts[k]
        · have HE2 := hid (show xs.take (k + 1) = ts.take (k + 1) from by rw [List.take_succ_eq_append_getElem hlt, List.take_succ_eq_append_getElem hlt2, HE.out, he])
          rw [he] at a0 a1 a2 a3
          clear he
          obtain ⟨x0, x1, x2, x3, hxyz⟩ : ∃ x0 x1 x2 x3, ts[k] = ⟨x0, x1, x2, x3⟩ := ⟨_, _, _, _, rfl⟩
          rw [hxyz] at a0 a1 a2 a3 b0 b1 b2 b3
          simp only at a0 a1 a2 a3 b0 b1 b2 b3
          clear hxyz
          go_wp2
          go_quiet (fail)
          go_wp2
          go_roundw
          case rel => exact ⟨k + 1, by omega, by go_num, HE2, drew_more HQ.out _⟩
          case measure => simp [intOf]; omega
        · have HF := hid (show ¬ xs = ts from fun e => he (by subst e; rfl))
          obtain ⟨x0, x1, x2, x3, hxyz⟩ : ∃ x0 x1 x2 x3, xs[k] = ⟨x0, x1, x2, x3⟩ := ⟨_, _, _, _, rfl⟩
          obtain ⟨y0, y1, y2, y3, hxyz'⟩ : ∃ y0 y1 y2 y3, ts[k] = ⟨y0, y1, y2, y3⟩ := ⟨_, _, _, _, rfl⟩
          rw [hxyz, hxyz'] at he
          rw [hxyz] at a0 a1 a2 a3
          rw [hxyz'] at b0 b1 b2 b3
          simp only at a0 a1 a2 a3 b0 b1 b2 b3
          clear hxyz hxyz'
          have hne : ((x0 == y0) = false) ∨ ((x0 == y0) = true ∧ (x1.toList == y1.toList) = false) ∨ ((x0 == y0) = true ∧ (x1.toList == y1.toList) = true ∧ (x2 == y2) = false) ∨ ((x0 == y0) = true ∧ (x1.toList == y1.toList) = true ∧ (x2 == y2) = true ∧ (x3 == y3) = false) := by
            by_cases g0 : x0 = y0
            · by_cases g1 : x1 = y1
              · by_cases g2 : x2 = y2
                · by_cases g3 : x3 = y3
                  · exact absurd (by rw [g0, g1, g2, g3]) he
                  · exact .inr (.inr (.inr ⟨by simpa using g0, by rw [g1]; simp, by simpa using g2, by simpa using g3⟩))
                · exact .inr (.inr (.inl ⟨by simpa using g0, by rw [g1]; simp, by simpa using g2⟩))
              · exact .inr (.inl ⟨by simpa using g0, by rw [beq_eq_false_iff_ne, ByteArray.toList_eq, ByteArray.toList_eq]; exact fun e => g1 (ByteArray.ext (Array.ext' e))⟩)
            · exact .inl (by simpa using g0)
          have hrun := neq_l1Consts hne
          clear he hne
          go_wp2
          go_quiet (fail)
          go_wp2
          go_ret
          exact ⟨false, rfl, ⟨fun h => by simp at h, fun h => absurd h HF.out⟩, drew_more HQ.out _⟩
      · have HF := hid (show xs = ts from by
          have := HE.out
          rw [List.take_of_length_le (by omega), List.take_of_length_le (by rw [← HN.out]; omega)] at this
          exact this)
        go_wp2
        go_ret
        exact ⟨true, rfl, ⟨fun _ => HF.out, fun _ => rfl⟩, HQ.out⟩
  · obtain ⟨ao1, c1, hv1⟩ := own_len h1
    obtain ⟨ao2, c2, hv2⟩ := own_len h2
    subst hv1 hv2
    have HF := hid (show ¬ xs = ts from fun e => hn (by rw [e]))
    have hn' : ((xs.length : Int) != (ts.length : Int)) = true := by simp; omega
    clear h1 h2 hn
    go_enter Try.func60, Try.ntmps60
    go_wp2
    go_ret
    exact ⟨false, rfl, ⟨fun h => by simp at h, fun h => absurd h HF.out⟩, 0, rfl⟩

end Go.Proofs.Ytnejkkaicnbkoaa
