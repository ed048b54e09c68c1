/- Contract of heldStringS: what was marked is still marked. -/
import Derived.Test.YtdlgifpiblcaeaaMarks
import Derived.Deep.RegionWith
namespace Go.Proofs.Ytdlgifpiblcaeaa
open Mx Go.RowKit
set_option maxHeartbeats 400000

theorem heldStringS_any (v : Value) (k0 n : Nat) (B : Nat) (w : World) (hl : n ≤ 1000000) (hk0 : 0 < k0) (hk : k0 ≤ 1000000000000)
    (h1 : w.ownsRow B 9 1 v n ((marks k0 n).map Value.string)) :
    Calls Try.prog 19 #[v, .int .i64 (k0 : Int)] w fun e w' => e = .returned (.int .i64 ((k0 + n : Nat) : Int)) ∧ Below w.heap.size w w' := by
  by_cases hz : n = 0
  · obtain ⟨ao1, c1, rfl⟩ := own_len h1
    subst hz
    clear h1 hl
    go_enter Try.func19, Try.ntmps19
    go_wp2
    refine wp_loop_rounds 1 ?_
    rw [rounds_succ]
    go_wp2
    go_ret
    exact ⟨rfl, Below.refl _ _⟩
  · obtain ⟨g1, c1, rfl⟩ := Joins.ownsRow_form h1 (by omega)
    have hg := (h1.lt g1 rfl).2
    have HC : Hid (∀ j, j < n → w.cell? ⟨g1, j, none⟩ = some (.string (mt (k0 + j)))) := by
      intro j hj
      rw [h1.cellAt j (by omega)]
      simp [marks, hj]
    clear h1
    go_enter Try.func19, Try.ntmps19
    go_wp2
    go_loopw [1, 5] (fun kv i wr => ∃ (j : Nat), j ≤ n ∧ i = .int .i64 j ∧ kv = .int .i64 ((k0 + j : Nat) : Int) ∧ Below w.heap.size w wr) (fun _ i _ => n - (intOf i).toNat)
    case atStart => exact ⟨0, by omega, rfl, rfl, Below.refl _ _⟩
    case round =>
      obtain ⟨j, hj, rfl, rfl, hb⟩ := hrel
      by_cases hlt : j < n
      · obtain ⟨x, HX⟩ : ∃ x, Hid (mt (k0 + j) = x) := ⟨_, rfl⟩
        have hM : ∀ w, Calls Try.prog 32 #[.int .i64 ((k0 + j : Nat) : Int)] w fun e w' => e = .returned (.string x) ∧ Below w.heap.size w w' := by
          intro w; rw [← HX.out]; exact markText_any (k0 + j) w (by omega) (by omega)
        have hc0 : w.cell? ⟨g1, j, none⟩ = some (.string x) := by rw [← HX.out]; exact HC.out j hlt
        have hc1 : wr.cell? ⟨g1, j, none⟩ = some (.string x) := (hb.cell (p := ⟨g1, j, none⟩) hg).trans hc0
        have hg' : g1 < wr.heap.size := Nat.lt_of_lt_of_le hg hb.size
        go_wp2
        go_region_with (go_at_call 32; refine (hM _).mono ?_; rintro e w1 ⟨rfl, hb1⟩; have hc2 : w1.cell? ⟨g1, j, none⟩ = some (.string x) := (hb1.cell (p := ⟨g1, j, none⟩) (by simpa using hg')).trans (by simpa using hc1))
        all_goals go_wp2
        all_goals
          have hb2 : Below w.heap.size w w1 := hb.drew.trans (hb1.mono (by have := hb.size; simpa using this))
          clear hb1
          go_roundw
          case rel => exact ⟨j + 1, by omega, by go_num, by go_num, hb2⟩
          case measure => simp [intOf]; omega
      · have hj' : j = n := by omega
        subst hj'
        go_wp2
        go_ret
        exact ⟨rfl, hb⟩

end Go.Proofs.Ytdlgifpiblcaeaa
