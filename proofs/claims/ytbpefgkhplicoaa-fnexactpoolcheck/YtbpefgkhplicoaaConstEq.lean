/- Contracts of the law's own helpers on entries of a pool: szConst, szConstS, eqConst, eqConstS. -/
import Derived.Test.YtbpefgkhplicoaaConstTo
namespace Go.Proofs.Ytbpefgkhplicoaa
open Go.RowKit
set_option maxHeartbeats 400000

theorem szConst_any (t : C4) (n : Int) (w : World) (hn : 0 ≤ n) (hn2 : n ≤ 1048576) (hs : t.text.size ≤ maxLen) :
    Calls Try.prog 9 #[.agg #[.int .i64 t.kind, .string t.text, .int .i64 t.a, .int .i64 t.b], .int .i64 n] w fun e w' => e = .returned (.int .i64 (if (t.text.size : Int) ≤ n then n - t.text.size else -1)) ∧ Below w.heap.size w w' := by
  unfold maxLen at hs
  by_cases h : (t.text.size : Int) ≤ n
  · rw [if_pos h]
    go_enter Try.func9, Try.ntmps9
    go_wp2
    go_ret
    exact ⟨rfl, by go_grown⟩
  · rw [if_neg h]
    go_enter Try.func9, Try.ntmps9
    go_wp2
    go_ret
    exact ⟨rfl, by go_grown⟩

theorem szConstS_any (ao : Option Addr) (len cap : Nat) (ts : List C4) (w : World) (hl : len ≤ maxLen) (hA : ArgC w ao len ts) :
    Calls Try.prog 4 #[.slice ao len cap, .int .i64 1048576] w fun e w' => ∃ n, e = .returned (.int .i64 n) ∧ (n < 0 ∨ ((0 ≤ n ∧ n ≤ 1048576) ∧ len ≤ 1048576 ∧ ∀ t ∈ ts, t.text.size ≤ 1048576)) ∧ Below w.heap.size w w' := by
  unfold maxLen at hl
  by_cases h : len ≤ 1048576
  · obtain ⟨hlen, HS0, hcs⟩ := hA
    have HS : Hid (∀ t ∈ ts, t.text.size ≤ maxLen) := HS0
    clear HS0
    go_enter Try.func4, Try.ntmps4
    go_wp2
    go_loopw [1, 5] (fun l i wr => ∃ (n : Int) (k : Nat), k ≤ len ∧ i = .int .i64 k ∧ l = .int .i64 n ∧ 0 ≤ n ∧ n ≤ 1048576 ∧ Hid (∀ t ∈ ts.take k, t.text.size ≤ 1048576) ∧ Below w.heap.size w wr) (fun _ i _ => len - (intOf i).toNat)
    case atStart => exact ⟨1048576 - len, 0, by omega, rfl, by first | rfl | go_num, by omega, by omega, fun t ht => by simp at ht, Below.refl _ _⟩
    case round =>
      obtain ⟨n, k, hk, rfl, rfl, hn, hn2, HE, hbel⟩ := hrel
      by_cases hlt : k < len
      · rcases hcs with h0 | ⟨b, off, rfl, hbw, hc⟩
        · omega
        · obtain ⟨c1, c2, c3, c4⟩ := hc k (by omega)
          have d1 := (hbel.cell (p := ⟨b, off + k * 4, none⟩) hbw).trans c1
          have d2 := (hbel.cell (p := ⟨b, off + k * 4 + 1, none⟩) hbw).trans c2
          have d3 := (hbel.cell (p := ⟨b, off + k * 4 + 2, none⟩) hbw).trans c3
          have d4 := (hbel.cell (p := ⟨b, off + k * 4 + 3, none⟩) hbw).trans c4
          have hsz := HS.out (ts[k]'(by omega)) (List.getElem_mem _)
          obtain ⟨t, ht⟩ : ∃ t, ts[k]'(by omega) = t := ⟨_, rfl⟩
          rw [ht] at d1 d2 d3 d4 hsz
          have HX : Hid (ts[k]'(by omega) = t) := ht
          clear ht c1 c2 c3 c4 hc
          have hI := fun w => szConst_any t n w hn hn2 hsz
          by_cases hle : (t.text.size : Int) ≤ n
          · simp only [hle, if_true] at hI
            have HN : Hid (∀ x ∈ ts.take (k + 1), x.text.size ≤ 1048576) := by
              intro x hx
              rw [List.take_succ_eq_append_getElem (by omega)] at hx
              rcases List.mem_append.mp hx with hx | hx
              · exact HE.out x hx
              · simp at hx; rw [hx, HX.out]; omega
            go_wp2_with (go_at_call 9; refine (hI _).mono ?_; rintro e w1 ⟨rfl, hb1⟩)
            go_roundw
            case rel => exact ⟨_, k + 1, by omega, by go_num, rfl, by omega, by omega, HN.out, hbel.trans (hb1.mono hbel.size)⟩
            case measure => simp [intOf]; omega
          · simp only [hle, if_false] at hI
            go_wp2_with (go_at_call 9; refine (hI _).mono ?_; rintro e w1 ⟨rfl, hb1⟩)
            go_ret
            exact ⟨_, rfl, .inl (by omega), hbel.trans (hb1.mono hbel.size)⟩
      · go_wp2
        go_ret
        refine ⟨_, rfl, .inr ⟨⟨hn, hn2⟩, h, ?_⟩, hbel⟩
        have := HE.out
        rwa [List.take_of_length_le (by omega)] at this
  · clear hA
    go_enter Try.func4, Try.ntmps4
    go_wp2
    go_ret
    exact ⟨_, rfl, .inl (by omega), Below.refl _ _⟩

theorem eqConst_same (t : C4) (w : World) :
    Calls Try.prog 13 #[.agg #[.int .i64 t.kind, .string t.text, .int .i64 t.a, .int .i64 t.b], .agg #[.int .i64 t.kind, .string t.text, .int .i64 t.a, .int .i64 t.b]] w fun e w' => e = .returned (.bool true) ∧ Below w.heap.size w w' := by
  go_enter Try.func13, Try.ntmps13
  go_wp2
  go_ret
  exact ⟨rfl, ((Below.refl _ _).alloc (Nat.le_refl _) _).alloc (by simp) _⟩

theorem eqConstS_same (v1 v2 : Value) (ts : List C4) (B1 B2 : Nat) (w : World) (hl : ts.length ≤ 1048576)
    (h1 : w.ownsRow B1 33 4 v1 ts.length (cellsC ts)) (h2 : w.ownsRow B2 33 4 v2 ts.length (cellsC ts)) :
    Calls Try.prog 8 #[v1, v2] w fun e w' => e = .returned (.bool true) ∧ Below w.heap.size w w' := by
  by_cases hz : ts.length = 0
  · obtain ⟨ao1, c1, rfl⟩ := own_len h1
    obtain ⟨ao2, c2, rfl⟩ := own_len h2
    rw [hz]
    clear h1 h2 hl hz
    go_enter Try.func8, Try.ntmps8
    go_wp2
    refine wp_loop_rounds 1 ?_
    rw [rounds_succ]
    go_wp2
    go_ret
    exact ⟨rfl, Below.refl _ _⟩
  · obtain ⟨g1, c1, rfl⟩ := Joins.ownsRow_form h1 (by omega)
    obtain ⟨g2, c2, rfl⟩ := Joins.ownsRow_form h2 (by omega)
    have H1 : Hid (w.ownsRow B1 33 4 (.slice (some ⟨g1, 0, none⟩) ts.length c1) ts.length (cellsC ts)) := h1
    have H2 : Hid (w.ownsRow B2 33 4 (.slice (some ⟨g2, 0, none⟩) ts.length c2) ts.length (cellsC ts)) := h2
    have hg1 := (h1.lt g1 rfl).2
    have hg2 := (h2.lt g2 rfl).2
    clear h1 h2
    go_enter Try.func8, Try.ntmps8
    go_wp2
    go_loopw [5] (fun i wr => ∃ (k : Nat), k ≤ ts.length ∧ i = .int .i64 k ∧ Below w.heap.size w wr) (fun i _ => ts.length - (intOf i).toNat)
    case atStart => exact ⟨0, by omega, rfl, Below.refl _ _⟩
    case round =>
      obtain ⟨k, hk, rfl, hb⟩ := hrel
      by_cases hlt : k < ts.length
      · obtain ⟨t, hc11, hc12, hc13, hc14, hc21, hc22, hc23, hc24⟩ : ∃ t : C4, wr.cell? ⟨g1, k * 4, none⟩ = some (.int .i64 t.kind) ∧ wr.cell? ⟨g1, k * 4 + 1, none⟩ = some (.string t.text) ∧ wr.cell? ⟨g1, k * 4 + 2, none⟩ = some (.int .i64 t.a) ∧ wr.cell? ⟨g1, k * 4 + 3, none⟩ = some (.int .i64 t.b) ∧ wr.cell? ⟨g2, k * 4, none⟩ = some (.int .i64 t.kind) ∧ wr.cell? ⟨g2, k * 4 + 1, none⟩ = some (.string t.text) ∧ wr.cell? ⟨g2, k * 4 + 2, none⟩ = some (.int .i64 t.a) ∧ wr.cell? ⟨g2, k * 4 + 3, none⟩ = some (.int .i64 t.b) := by
          obtain ⟨a1, a2, a3, a4⟩ := cells4_at (own_below H1.out hb) hlt
          obtain ⟨b1, b2, b3, b4⟩ := cells4_at (own_below H2.out hb) hlt
          exact ⟨_, a1, a2, a3, a4, b1, b2, b3, b4⟩
        have hE := fun w => eqConst_same t w
        go_wp2
        go_region_with (go_at_call 13; refine (hE _).mono ?_; rintro e w1 ⟨rfl, hb1⟩)
        all_goals go_wp2
        all_goals
          have hb2 : Below w.heap.size w w1 := (below_drewN hb 1).trans (hb1.mono (by have := hb.size; simpa using this))
          clear hb1
          go_roundw
          case rel => exact ⟨k + 1, by omega, by go_num, hb2⟩
          case measure => simp [intOf]; omega
      · go_wp2
        go_ret
        exact ⟨rfl, hb⟩

end Go.Proofs.Ytbpefgkhplicoaa
