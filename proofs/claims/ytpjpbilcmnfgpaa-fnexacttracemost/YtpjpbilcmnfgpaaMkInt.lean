/- Marks in rows of ints, and that they are held: the part of MkFlat for lists of ints alone. -/
import Derived.Test.YtpjpbilcmnfgpaaLkBase
import Derived.Test.YtpjpbilcmnfgpaaRowInt
namespace Go.Proofs.Ytpjpbilcmnfgpaa
open Go.RowKit
set_option maxHeartbeats 2000000
set_option maxRecDepth 20000
set_option linter.unusedVariables false

/-- the marks from k on, m of them -/
def cnt (k m : Nat) : List Value := (List.range m).map fun i => Value.int .i64 ((k + i : Nat) : Int)
theorem cnt_len (k m : Nat) : (cnt k m).length = m := by simp [cnt]
theorem cnt_get {k m c : Nat} (h : c < m) : (cnt k m)[c]? = some (.int .i64 ((k + c : Nat) : Int)) := by simp [cnt, h]
theorem cnt_succ (k m : Nat) : cnt k (m + 1) = cnt k m ++ [.int .i64 ((k + m : Nat) : Int)] := by simp [cnt, List.range_succ]
theorem cnt_set (k c : Nat) (xs : List Value) (h : c < xs.length) (a : Int) (ha : a = ((k + c : Nat) : Int)) : (cnt k c ++ xs.drop c).set c (.int .i64 a) = cnt k (c + 1) ++ xs.drop (c + 1) := by
  subst ha
  rw [List.set_append_right _ _ (by rw [cnt_len]; omega), cnt_len, Nat.sub_self, List.drop_eq_getElem_cons h, List.set_cons_zero, cnt_succ]
  simp
theorem cnt_stored {w : World} {B g c1 n k0 c z : Nat} {T : TypeId} {xs : List Value} (h : w.ownsRow B T z (.slice (some ⟨g, 0, none⟩) n c1) n (cnt k0 c ++ xs.drop c)) (hc : c < xs.length) (a : Int) (ha : a = ((k0 + c : Nat) : Int)) :
    (w.setCell ⟨g, c, none⟩ (.int .i64 a)).ownsRow B T z (.slice (some ⟨g, 0, none⟩) n c1) n (cnt k0 (c + 1) ++ xs.drop (c + 1)) ∧ w.grownBy (w.setCell ⟨g, c, none⟩ (.int .i64 a)) (some g) := by
  have := h.stored c (.int .i64 a)
  rw [cnt_set k0 c xs hc a ha] at this
  exact this

theorem markIntS_any (v : Value) (k0 n B : Nat) (xs : List Value) (w : World) (hn : n ≤ 1000) (hk : k0 ≤ 1000000000) (h : w.ownsRow B 3 1 v n xs) :
    Calls Try.prog 11 #[v, .int .i64 (k0 : Int)] w fun e w' => e = .returned (.int .i64 ((k0 + n * 1 : Nat) : Int)) ∧ w'.ownsRow B 3 1 v n (cnt k0 (n * 1)) ∧ w.grownBy w' v.ownBlock := by
  have hxl : xs.length = n * 1 := h.1
  by_cases hz : n = 0
  · obtain ⟨ao1, c1, rfl⟩ := own_len h
    subst hz
    have hx0 : xs = [] := List.eq_nil_of_length_eq_zero (by omega)
    subst hx0
    have HO := hid h
    clear h hxl
    go_enter Try.func11, Try.ntmps11
    go_wp2
    refine wp_loop_rounds 1 ?_
    rw [rounds_succ]
    go_wp2
    go_ret
    exact ⟨by simp, by simpa [cnt] using HO.out, grown_refl _ _⟩
  · obtain ⟨g1, c1, rfl⟩ := Joins.ownsRow_form h (by omega)
    have HO0 := hid (show w.ownsRow B 3 1 (.slice (some ⟨g1, 0, none⟩) n c1) n (cnt k0 0 ++ xs.drop 0) from by simpa [cnt] using h)
    clear h
    go_enter Try.func11, Try.ntmps11
    go_wp2
    go_loopw [1, 5] (fun kv i wr => ∃ (j a : Nat), j ≤ n ∧ i = .int .i64 j ∧ kv = .int .i64 (a : Int) ∧ Hid (a = k0 + j * 1) ∧ a ≤ 1000010000 ∧ Hid (wr.ownsRow B 3 1 (.slice (some ⟨g1, 0, none⟩) n c1) n (cnt k0 (j * 1) ++ xs.drop (j * 1))) ∧ Hid (w.grownBy wr (some g1))) (fun _ i _ => n - (intOf i).toNat)
    case atStart => exact ⟨0, k0, by omega, rfl, rfl, hid (by omega), by omega, by simpa using HO0, grown_refl _ _⟩
    case round =>
      obtain ⟨j, a, hj, rfl, rfl, ha, hab, HO, HG⟩ := hrel
      by_cases hlt : j < n
      · obtain ⟨u0_, hc0⟩ := own_has HO.out (k := j) (by omega)
        have hf0 := HO.out.frozenAt (j)
        have HX0 := hid (show _ from HO.out)
        have HX1 := hid (cnt_stored (k0 := k0) (c := j) (show wr.ownsRow B 3 1 (.slice (some ⟨g1, 0, none⟩) n c1) n (cnt k0 j ++ xs.drop j) from by have := HO.out; rwa [show j * 1 = j by omega] at this) (by omega) ((a : Int)) (by have := ha.out; omega))
        have HN := hid (show _ ∧ _ from ⟨HX1.out.1, grown_trans (HG.out) HX1.out.2⟩)
        clear HO HO0 HG HX0 HX1
        go_wp2
        go_roundw
        case rel => exact ⟨j + 1, a + 1, by omega, by go_num, by go_num, hid (by have := ha.out; omega), by have := ha.out; omega, by have := HN.out.1; rw [show (j + 1) * 1 = j + 1 by omega]; exact this, HN.out.2⟩
        case measure => simp [intOf]; omega
      · have hj' := hid (show j = n by omega)
        have HO' := hid (show wr.ownsRow B 3 1 (.slice (some ⟨g1, 0, none⟩) n c1) n (cnt k0 (n * 1)) from by
          have := HO.out; rw [List.drop_eq_nil_of_le (by omega), List.append_nil, hj'.out] at this; exact this)
        clear HO HO0
        go_wp2
        go_ret
        exact ⟨ret_i64 (by rw [ha.out, hj'.out]), HO'.out, HG.out⟩
theorem heldIntS_any (v : Value) (k0 n B : Nat) (w : World) (hn : n ≤ 1000) (hk : k0 ≤ 1000000000) (h : w.ownsRow B 3 1 v n (cnt k0 (n * 1))) :
    Calls Try.prog 12 #[v, .int .i64 (k0 : Int)] w fun e w' => e = .returned (.int .i64 ((k0 + n * 1 : Nat) : Int)) ∧ Below w.heap.size w w' := by
  by_cases hz : n = 0
  · obtain ⟨ao1, c1, rfl⟩ := own_len h
    subst hz
    clear h
    go_enter Try.func12, Try.ntmps12
    go_wp2
    refine wp_loop_rounds 1 ?_
    rw [rounds_succ]
    go_wp2
    go_ret
    exact ⟨by simp, Below.refl _ _⟩
  · obtain ⟨g1, c1, rfl⟩ := Joins.ownsRow_form h (by omega)
    have HC := hid (show ∀ c, c < n * 1 → w.cell? ⟨g1, c, none⟩ = some (.int .i64 ((k0 + c : Nat) : Int)) from fun c hc => by rw [h.cellAt c hc]; exact cnt_get hc)
    clear h
    go_enter Try.func12, Try.ntmps12
    go_wp2
    go_loopw [1, 5] (fun kv i wr => ∃ (j a q : Nat), j ≤ n ∧ i = .int .i64 j ∧ kv = .int .i64 (a : Int) ∧ Hid (a = k0 + j * 1) ∧ a ≤ 1000010000 ∧ wr = w.drewN q) (fun _ i _ => n - (intOf i).toNat)
    case atStart => exact ⟨0, k0, 0, by omega, rfl, rfl, hid (by omega), by omega, rfl⟩
    case round =>
      obtain ⟨j, a, q, hj, rfl, rfl, ha, hab, rfl⟩ := hrel
      by_cases hlt : j < n
      · have hc0 : w.cell? ⟨g1, j, none⟩ = some (.int .i64 ((a : Int))) := by rw [HC.out _ (by omega)]; congr 2; have := ha.out; omega
        clear HC
        go_wp2
        go_roundw
        case rel => exact ⟨j + 1, a + 1, _, by omega, by go_num, by go_num, hid (by have := ha.out; omega), by have := ha.out; omega, rfl⟩
        case measure => simp [intOf]; omega
      · have hj' := hid (show j = n by omega)
        go_wp2
        go_ret
        exact ⟨ret_i64 (by rw [ha.out, hj'.out]), below_drewN (Below.refl _ _) _⟩


end Go.Proofs.Ytpjpbilcmnfgpaa
