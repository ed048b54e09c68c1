/- Contracts of the law's own helpers: markText, markStringS, heldStringS, eqStringS. -/
import Derived.Test.YtdlgifpiblcaeaaDescSpec
import Derived.Test.YtdlgifpiblcaeaaMkText
import Derived.BigQuiet
import Derived.Laws.IdiomStrings
namespace Go.Proofs.Ytdlgifpiblcaeaa
open Mx Go.RowKit
set_option maxHeartbeats 400000

theorem own_at {w : World} {B : Nat} {g cap : Nat} {ts : List ByteArray} (h : w.ownsRow B 9 1 (.slice (some ⟨g, 0, none⟩) ts.length cap) ts.length (ts.map Value.string)) {k : Nat} (hk : k < ts.length) :
    w.cell? ⟨g, k, none⟩ = some (.string ts[k]) := by
  rw [h.cellAt k (by omega)]
  simp [hk]

theorem eqStringS_same (v1 v2 : Value) (ts : List ByteArray) (B1 B2 : Nat) (w : World) (hl : ts.length ≤ 1000000)
    (h1 : w.ownsRow B1 9 1 v1 ts.length (ts.map Value.string)) (h2 : w.ownsRow B2 9 1 v2 ts.length (ts.map Value.string)) :
    Calls Try.prog 17 #[v1, v2] w fun e w' => e = .returned (.bool true) ∧ ∃ n, w' = w.drewN n := by
  by_cases hz : ts.length = 0
  · obtain ⟨ao1, c1, rfl⟩ := own_len h1
    obtain ⟨ao2, c2, rfl⟩ := own_len h2
    rw [hz]
    clear h1 h2 hl hz
    go_enter Try.func17, Try.ntmps17
    go_wp2
    refine wp_loop_rounds 1 ?_
    rw [rounds_succ]
    go_wp2
    go_ret
    exact ⟨rfl, 0, rfl⟩
  · obtain ⟨g1, c1, rfl⟩ := Joins.ownsRow_form h1 (by omega)
    obtain ⟨g2, c2, rfl⟩ := Joins.ownsRow_form h2 (by omega)
    have H1 : Hid (∀ k (hk : k < ts.length), w.cell? ⟨g1, k, none⟩ = some (.string ts[k])) := fun k hk => own_at h1 hk
    have H2 : Hid (∀ k (hk : k < ts.length), w.cell? ⟨g2, k, none⟩ = some (.string ts[k])) := fun k hk => own_at h2 hk
    clear h1 h2
    go_enter Try.func17, Try.ntmps17
    go_wp2
    go_loopw [5] (fun i wr => ∃ (k q : Nat), k ≤ ts.length ∧ i = .int .i64 k ∧ wr = w.drewN q) (fun i _ => ts.length - (intOf i).toNat)
    case atStart => exact ⟨0, 0, by omega, rfl, rfl⟩
    case round =>
      obtain ⟨k, q, hk, rfl, rfl⟩ := hrel
      by_cases hlt : k < ts.length
      · obtain ⟨x, hc1, hc2⟩ : ∃ x, w.cell? ⟨g1, k, none⟩ = some (.string x) ∧ w.cell? ⟨g2, k, none⟩ = some (.string x) := ⟨_, H1.out k hlt, H2.out k hlt⟩
        go_wp2
        go_quiet (fail)
        go_wp2
        go_roundw
        case rel => exact ⟨k + 1, _, by omega, by go_num, rfl⟩
        case measure => simp [intOf]; omega
      · go_wp2
        go_ret
        exact ⟨rfl, _, rfl⟩

/-- the marks from k on, n of them -/
def marks (k n : Nat) : List ByteArray := (List.range n).map fun i => mt (k + i)
theorem marks_len (k n : Nat) : (marks k n).length = n := by simp [marks]
theorem marks_succ (k n : Nat) : marks k (n + 1) = marks k n ++ [mt (k + n)] := by simp [marks, List.range_succ]
theorem marks_get (k n i : Nat) (h : i < (marks k n).length) : (marks k n)[i] = mt (k + i) := by simp [marks]

theorem marks_set (k j : Nat) (ts : List ByteArray) (h : j < ts.length) :
    ((marks k j ++ ts.drop j).map Value.string).set j (.string (mt (k + j))) = (marks k (j + 1) ++ ts.drop (j + 1)).map Value.string := by
  rw [← List.map_set, List.set_append_right _ _ (by rw [marks_len]; omega), marks_len, Nat.sub_self, List.drop_eq_getElem_cons h, List.set_cons_zero, marks_succ]
  simp

theorem mark_next {wr w1 : World} {B g1 c1 k0 j : Nat} {ts : List ByteArray} (h : wr.ownsRow B 9 1 (.slice (some ⟨g1, 0, none⟩) ts.length c1) ts.length ((marks k0 j ++ ts.drop j).map Value.string)) (hb1 : Below wr.heap.size wr w1) (hlt : j < ts.length) :
    (w1.setCell ⟨g1, j, none⟩ (.string (mt (k0 + j)))).ownsRow B 9 1 (.slice (some ⟨g1, 0, none⟩) ts.length c1) ts.length ((marks k0 (j + 1) ++ ts.drop (j + 1)).map Value.string) := by
  have := ((own_below h hb1).stored j (.string (mt (k0 + j)))).1
  rw [marks_set _ _ _ hlt] at this
  exact this

theorem markStringS_any (v : Value) (k0 : Nat) (ts : List ByteArray) (B : Nat) (w : World) (hl : ts.length ≤ 1000000) (hk0 : 0 < k0) (hk : k0 ≤ 1000000000000)
    (h1 : w.ownsRow B 9 1 v ts.length (ts.map Value.string)) (hB : B ≤ w.heap.size) :
    Calls Try.prog 18 #[v, .int .i64 (k0 : Int)] w fun e w' => e = .returned (.int .i64 ((k0 + ts.length : Nat) : Int)) ∧ w'.ownsRow B 9 1 v ts.length ((marks k0 ts.length).map Value.string) ∧ Below B w w' := by
  by_cases hz : ts.length = 0
  · obtain ⟨ao1, c1, rfl⟩ := own_len h1
    have hts : ts = [] := List.eq_nil_of_length_eq_zero hz
    subst hts
    have HO : Hid (w.ownsRow B 9 1 (.slice ao1 0 c1) 0 []) := h1
    clear h1 hl hz
    go_enter Try.func18, Try.ntmps18
    go_wp2
    refine wp_loop_rounds 1 ?_
    rw [rounds_succ]
    go_wp2
    go_ret
    exact ⟨rfl, HO.out, Below.refl _ _⟩
  · obtain ⟨g1, c1, rfl⟩ := Joins.ownsRow_form h1 (by omega)
    have hg := (h1.lt g1 rfl).1
    go_enter Try.func18, Try.ntmps18
    go_wp2
    go_loopw [1, 5] (fun kv i wr => ∃ (j : Nat), j ≤ ts.length ∧ i = .int .i64 j ∧ kv = .int .i64 ((k0 + j : Nat) : Int) ∧ Hid (wr.ownsRow B 9 1 (.slice (some ⟨g1, 0, none⟩) ts.length c1) ts.length ((marks k0 j ++ ts.drop j).map Value.string)) ∧ Below B w wr) (fun _ i _ => ts.length - (intOf i).toNat)
    case atStart => exact ⟨0, by omega, rfl, rfl, by unfold Hid; simpa [marks] using h1, Below.refl _ _⟩
    case round =>
      obtain ⟨j, hj, rfl, rfl, HO, hb⟩ := hrel
      clear h1
      by_cases hlt : j < ts.length
      · have hM := fun w => markText_any (k0 + j) w (by omega) (by omega)
        go_wp2_with (go_at_call 32; refine (hM _).mono ?_; rintro e w1 ⟨rfl, hb1⟩; have ho1 := own_below HO.out hb1; have hf1 := ho1.frozenAt j; have hc1 := own_has (k := j) ho1 (by omega); obtain ⟨x, hc1⟩ := hc1; clear ho1)
        go_roundw
        case rel => exact ⟨j + 1, by omega, by go_num, by go_num, mark_next HO.out hb1 hlt, (hb.trans (hb1.mono (Nat.le_trans hB hb.size))).setCell hg _⟩
        case measure => simp [intOf]; omega
      · have hj' : j = ts.length := by omega
        subst hj'
        have HO' : Hid (wr.ownsRow B 9 1 (.slice (some ⟨g1, 0, none⟩) ts.length c1) ts.length ((marks k0 ts.length).map Value.string)) := by
          have := HO.out; rw [List.drop_length, List.append_nil] at this; exact this
        clear HO
        go_wp2
        go_ret
        exact ⟨rfl, HO'.out, hb⟩

end Go.Proofs.Ytdlgifpiblcaeaa
