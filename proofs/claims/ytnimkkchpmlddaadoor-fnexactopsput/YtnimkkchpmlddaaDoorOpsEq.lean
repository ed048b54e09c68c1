/- Contracts of the law's own helpers on ops: eqIns, eqInsS, markInsS, heldInsS. -/
import Derived.Test.YtnimkkchpmlddaaDoorOpsGetSpec
namespace Go.Proofs.YtnimkkchpmlddaaDoor
open Mx Go.RowKit
set_option maxHeartbeats 400000

theorem eqIns_same (a b c : Int) (w : World) :
    Calls Tryd.prog 17 #[.agg #[.int .i64 a, .int .i64 b, .int .i64 c], .agg #[.int .i64 a, .int .i64 b, .int .i64 c]] w fun e w' => e = .returned (.bool true) ∧ Below w.heap.size w w' := by
  go_enter Tryd.func17, Tryd.ntmps17
  go_wp2
  go_ret
  exact ⟨rfl, ((Below.refl _ _).alloc (Nat.le_refl _) _).alloc (by simp) _⟩

theorem cells3_at {w : World} {B g cap : Nat} {ts : List Op3} (h : w.ownsRow B 37 3 (.slice (some ⟨g, 0, none⟩) ts.length cap) ts.length (cellsL ts)) {k : Nat} (hk : k < ts.length) :
    w.cell? ⟨g, k * 3, none⟩ = some (.int .i64 ts[k].at_) ∧ w.cell? ⟨g, k * 3 + 1, none⟩ = some (.int .i64 ts[k].op) ∧ w.cell? ⟨g, k * 3 + 2, none⟩ = some (.int .i64 ts[k].num) := by
  have hx : ∀ j, j < 3 → (cellsL ts)[k * 3 + j]? = (cells3 ts[k])[j]? := by
    intro j hj
    have e : cellsL ts = cellsL (ts.take k) ++ (cells3 ts[k] ++ cellsL (ts.drop (k + 1))) := by
      have ht : ts = ts.take k ++ ts[k] :: ts.drop (k + 1) := by rw [← List.drop_eq_getElem_cons hk, List.take_append_drop]
      exact (congrArg (List.flatMap cells3) ht).trans (by rw [List.flatMap_append, List.flatMap_cons]; rfl)
    rw [e, List.getElem?_append_right (by rw [cellsL_len, List.length_take]; omega), cellsL_len, List.length_take, show k * 3 + j - min k ts.length * 3 = j by omega, List.getElem?_append_left (by simp [cells3]; omega)]
  refine ⟨?_, ?_, ?_⟩
  · rw [h.cellAt _ (by omega)]; exact hx 0 (by omega)
  · rw [h.cellAt _ (by omega)]; exact hx 1 (by omega)
  · rw [h.cellAt _ (by omega)]; exact hx 2 (by omega)

theorem eqInsS_same (v1 v2 : Value) (ts : List Op3) (B1 B2 : Nat) (w : World) (hl : ts.length ≤ 2000000)
    (h1 : w.ownsRow B1 37 3 v1 ts.length (cellsL ts)) (h2 : w.ownsRow B2 37 3 v2 ts.length (cellsL ts)) :
    Calls Tryd.prog 7 #[v1, v2] w fun e w' => e = .returned (.bool true) ∧ Below w.heap.size w w' := by
  by_cases hz : ts.length = 0
  · obtain ⟨ao1, c1, rfl⟩ := own_len h1
    obtain ⟨ao2, c2, rfl⟩ := own_len h2
    rw [hz]
    clear h1 h2 hl hz
    go_enter Tryd.func7, Tryd.ntmps7
    go_wp2
    refine wp_loop_rounds 1 ?_
    rw [rounds_succ]
    go_wp2
    go_ret
    exact ⟨rfl, Below.refl _ _⟩
  · obtain ⟨g1, c1, rfl⟩ := Joins.ownsRow_form h1 (by omega)
    obtain ⟨g2, c2, rfl⟩ := Joins.ownsRow_form h2 (by omega)
    have H1 : Hid (w.ownsRow B1 37 3 (.slice (some ⟨g1, 0, none⟩) ts.length c1) ts.length (cellsL ts)) := h1
    have H2 : Hid (w.ownsRow B2 37 3 (.slice (some ⟨g2, 0, none⟩) ts.length c2) ts.length (cellsL ts)) := h2
    have hg1 := (h1.lt g1 rfl).2
    have hg2 := (h2.lt g2 rfl).2
    clear h1 h2
    go_enter Tryd.func7, Tryd.ntmps7
    go_wp2
    go_loopw [5] (fun i wr => ∃ (k : Nat), k ≤ ts.length ∧ i = .int .i64 k ∧ Below w.heap.size w wr) (fun i _ => ts.length - (intOf i).toNat)
    case atStart => exact ⟨0, by omega, rfl, Below.refl _ _⟩
    case round =>
      obtain ⟨k, hk, rfl, hb⟩ := hrel
      by_cases hlt : k < ts.length
      · obtain ⟨x, y, z, hc11, hc12, hc13, hc21, hc22, hc23⟩ : ∃ x y z, wr.cell? ⟨g1, k * 3, none⟩ = some (.int .i64 x) ∧ wr.cell? ⟨g1, k * 3 + 1, none⟩ = some (.int .i64 y) ∧ wr.cell? ⟨g1, k * 3 + 2, none⟩ = some (.int .i64 z) ∧ wr.cell? ⟨g2, k * 3, none⟩ = some (.int .i64 x) ∧ wr.cell? ⟨g2, k * 3 + 1, none⟩ = some (.int .i64 y) ∧ wr.cell? ⟨g2, k * 3 + 2, none⟩ = some (.int .i64 z) := by
          obtain ⟨a1, a2, a3⟩ := cells3_at (own_below H1.out hb) hlt
          obtain ⟨b1, b2, b3⟩ := cells3_at (own_below H2.out hb) hlt
          exact ⟨_, _, _, a1, a2, a3, b1, b2, b3⟩
        have hE := fun w => eqIns_same x y z w
        go_wp2
        go_region_with (go_at_call 17; refine (hE _).mono ?_; rintro e w1 ⟨rfl, hb1⟩)
        all_goals go_wp2
        all_goals
          have hb2 : Below w.heap.size w w1 := (below_drewN hb 1).trans (hb1.mono (by have := hb.size; simpa using this))
          clear hb1
          go_roundw
          case rel => exact ⟨k + 1, by omega, by go_num, hb2⟩
          case measure => simp [intOf]; omega
      · go_wp2
        go_ret
        exact ⟨rfl, hb⟩

/-- the numbers from k on, three an op -/
def marks3 (k n : Nat) : List Op3 := (List.range n).map fun i => ⟨((k + 3 * i : Nat) : Int), ((k + 3 * i + 1 : Nat) : Int), ((k + 3 * i + 2 : Nat) : Int)⟩
theorem marks3_len (k n : Nat) : (marks3 k n).length = n := by simp [marks3]
theorem marks3_succ (k n : Nat) : marks3 k (n + 1) = marks3 k n ++ [⟨((k + 3 * n : Nat) : Int), ((k + 3 * n + 1 : Nat) : Int), ((k + 3 * n + 2 : Nat) : Int)⟩] := by simp [marks3, List.range_succ]

theorem marks3_set (k j : Nat) (ts : List Op3) (h : j < ts.length) :
    (((cellsL (marks3 k j ++ ts.drop j)).set (j * 3) (.int .i64 ((k + 3 * j : Nat) : Int))).set (j * 3 + 1) (.int .i64 ((k + 3 * j + 1 : Nat) : Int))).set (j * 3 + 2) (.int .i64 ((k + 3 * j + 2 : Nat) : Int)) = cellsL (marks3 k (j + 1) ++ ts.drop (j + 1)) := by
  rw [List.drop_eq_getElem_cons h, marks3_succ]
  have e1 : cellsL (marks3 k j ++ ts[j] :: ts.drop (j + 1)) = cellsL (marks3 k j) ++ (.int .i64 ts[j].at_ :: .int .i64 ts[j].op :: .int .i64 ts[j].num :: cellsL (ts.drop (j + 1))) := by
    unfold cellsL; rw [List.flatMap_append, List.flatMap_cons]; rfl
  have hl : (cellsL (marks3 k j)).length = j * 3 := by rw [cellsL_len, marks3_len]
  rw [e1, List.set_append_right _ _ (by omega), hl, Nat.sub_self, List.set_cons_zero, List.set_append_right _ _ (by omega), hl, show j * 3 + 1 - j * 3 = 1 by omega, List.set_cons_succ, List.set_cons_zero,
    List.set_append_right _ _ (by omega), hl, show j * 3 + 2 - j * 3 = 2 by omega, List.set_cons_succ, List.set_cons_succ, List.set_cons_zero]
  simp [cellsL, cells3]

theorem mark3_next {wr : World} {B g1 c1 k0 j : Nat} {ts : List Op3} (h : wr.ownsRow B 37 3 (.slice (some ⟨g1, 0, none⟩) ts.length c1) ts.length (cellsL (marks3 k0 j ++ ts.drop j))) (hlt : j < ts.length) :
    (((wr.setCell ⟨g1, j * 3, none⟩ (.int .i64 ((k0 + 3 * j : Nat) : Int))).setCell ⟨g1, j * 3 + 1, none⟩ (.int .i64 ((k0 + 3 * j + 1 : Nat) : Int))).setCell ⟨g1, j * 3 + 2, none⟩ (.int .i64 ((k0 + 3 * j + 2 : Nat) : Int))).ownsRow B 37 3 (.slice (some ⟨g1, 0, none⟩) ts.length c1) ts.length (cellsL (marks3 k0 (j + 1) ++ ts.drop (j + 1))) := by
  have := ((((h.stored (j * 3) (.int .i64 ((k0 + 3 * j : Nat) : Int))).1.stored (j * 3 + 1) (.int .i64 ((k0 + 3 * j + 1 : Nat) : Int))).1).stored (j * 3 + 2) (.int .i64 ((k0 + 3 * j + 2 : Nat) : Int))).1
  rw [marks3_set _ _ _ hlt] at this
  exact this

theorem markInsS_any (v : Value) (k0 : Nat) (ts : List Op3) (B : Nat) (w : World) (hl : ts.length ≤ 2000000) (hk : k0 ≤ 1000000000000)
    (h1 : w.ownsRow B 37 3 v ts.length (cellsL ts)) :
    Calls Tryd.prog 8 #[v, .int .i64 (k0 : Int)] w fun e w' => e = .returned (.int .i64 ((k0 + 3 * ts.length : Nat) : Int)) ∧ w'.ownsRow B 37 3 v ts.length (cellsL (marks3 k0 ts.length)) ∧ Below B w w' := by
  by_cases hz : ts.length = 0
  · obtain ⟨ao1, c1, rfl⟩ := own_len h1
    have hts : ts = [] := List.eq_nil_of_length_eq_zero hz
    subst hts
    have HO : Hid (w.ownsRow B 37 3 (.slice ao1 0 c1) 0 []) := h1
    clear h1 hl hz
    go_enter Tryd.func8, Tryd.ntmps8
    go_wp2
    refine wp_loop_rounds 1 ?_
    rw [rounds_succ]
    go_wp2
    go_ret
    exact ⟨rfl, HO.out, Below.refl _ _⟩
  · obtain ⟨g1, c1, rfl⟩ := Joins.ownsRow_form h1 (by omega)
    have hg := (h1.lt g1 rfl).1
    go_enter Tryd.func8, Tryd.ntmps8
    go_wp2
    go_loopw [1, 5] (fun kv i wr => ∃ (j : Nat), j ≤ ts.length ∧ i = .int .i64 j ∧ kv = .int .i64 ((k0 + 3 * j : Nat) : Int) ∧ Hid (wr.ownsRow B 37 3 (.slice (some ⟨g1, 0, none⟩) ts.length c1) ts.length (cellsL (marks3 k0 j ++ ts.drop j))) ∧ Below B w wr) (fun _ i _ => ts.length - (intOf i).toNat)
    case atStart => exact ⟨0, by omega, rfl, rfl, by unfold Hid; simpa [marks3] using h1, Below.refl _ _⟩
    case round =>
      obtain ⟨j, hj, rfl, rfl, HO, hb⟩ := hrel
      clear h1
      by_cases hlt : j < ts.length
      · obtain ⟨x, hx⟩ := own_has HO.out (k := j * 3) (by omega)
        obtain ⟨y, hy⟩ := own_has HO.out (k := j * 3 + 1) (by omega)
        obtain ⟨z, hz'⟩ := own_has HO.out (k := j * 3 + 2) (by omega)
        have f1 := HO.out.frozenAt (j * 3)
        have f2 := HO.out.frozenAt (j * 3 + 1)
        have f3 := HO.out.frozenAt (j * 3 + 2)
        go_wp2
        go_roundw
        case rel => exact ⟨j + 1, by omega, by go_num, by go_num, mark3_next HO.out hlt, ((hb.setCell hg _).setCell hg _).setCell hg _⟩
        case measure => simp [intOf]; omega
      · have hj' : j = ts.length := by omega
        subst hj'
        have HO' : Hid (wr.ownsRow B 37 3 (.slice (some ⟨g1, 0, none⟩) ts.length c1) ts.length (cellsL (marks3 k0 ts.length))) := by
          have := HO.out; rw [List.drop_length, List.append_nil] at this; exact this
        clear HO
        go_wp2
        go_ret
        exact ⟨rfl, HO'.out, hb⟩

theorem heldInsS_any (v : Value) (k0 n : Nat) (B : Nat) (w : World) (hl : n ≤ 1000000) (hk : k0 ≤ 1000000000000)
    (h1 : w.ownsRow B 37 3 v n (cellsL (marks3 k0 n))) :
    Calls Tryd.prog 9 #[v, .int .i64 (k0 : Int)] w fun e w' => e = .returned (.int .i64 ((k0 + 3 * n : Nat) : Int)) ∧ w' = w := by
  by_cases hz : n = 0
  · obtain ⟨ao1, c1, rfl⟩ := own_len h1
    subst hz
    clear h1 hl
    go_enter Tryd.func9, Tryd.ntmps9
    go_wp2
    refine wp_loop_rounds 1 ?_
    rw [rounds_succ]
    go_wp2
    go_ret
    exact ⟨rfl, rfl⟩
  · obtain ⟨g1, c1, rfl⟩ := Joins.ownsRow_form h1 (by omega)
    have HC : Hid (∀ j, j < n → w.cell? ⟨g1, j * 3, none⟩ = some (.int .i64 ((k0 + 3 * j : Nat) : Int)) ∧ w.cell? ⟨g1, j * 3 + 1, none⟩ = some (.int .i64 ((k0 + 3 * j + 1 : Nat) : Int)) ∧ w.cell? ⟨g1, j * 3 + 2, none⟩ = some (.int .i64 ((k0 + 3 * j + 2 : Nat) : Int))) := by
      intro j hj
      have hm := marks3_len k0 n
      have h2 : w.ownsRow B 37 3 (.slice (some ⟨g1, 0, none⟩) (marks3 k0 n).length c1) (marks3 k0 n).length (cellsL (marks3 k0 n)) := by rw [hm]; exact h1
      have := cells3_at h2 (k := j) (by omega)
      simpa [marks3] using this
    clear h1
    go_enter Tryd.func9, Tryd.ntmps9
    go_wp2
    go_loop [1, 5] (fun kv i => ∃ (j : Nat), j ≤ n ∧ i = .int .i64 j ∧ kv = .int .i64 ((k0 + 3 * j : Nat) : Int)) (fun _ i => n - (intOf i).toNat)
    case atStart => exact ⟨0, by omega, rfl, rfl⟩
    case round =>
      obtain ⟨j, hj, rfl, rfl⟩ := hrel
      by_cases hlt : j < n
      · obtain ⟨c1, c2, c3⟩ := HC.out j hlt
        go_wp2
        go_round
        case rel => exact ⟨j + 1, by omega, by go_num, by go_num⟩
        case measure => simp [intOf]; omega
      · have hj' : j = n := by omega
        subst hj'
        go_wp2
        go_ret
        exact ⟨rfl, rfl⟩

end Go.Proofs.YtnimkkchpmlddaaDoor
