/- Contracts of the small functions on ops: l1In, l3Args, l3Num of the specification; isOp, numberOf of the program. -/
import Derived.Test.YtnimkkchpmlddaaDoorBase
import Derived.Test.YtnimkkchpmlddaaDoorOpsMath
namespace Go.Proofs.YtnimkkchpmlddaaDoor
open Mx Go.RowKit
set_option maxHeartbeats 400000

theorem l1In_any (n lo hi : Int) (w : World) :
    Calls Tryd.prog 18 #[.int .i64 n, .int .i64 lo, .int .i64 hi] w fun e w' => e = .returned (.bool (decide (lo ≤ n) && decide (n ≤ hi))) ∧ w' = w := by
  go_enter Tryd.func18, Tryd.ntmps18
  go_wp2
  all_goals go_ret
  all_goals refine ⟨ret_bool ?_, rfl⟩
  all_goals (rw [Bool.eq_iff_iff]; simp; omega)

theorem isOp_any (n : Int) (w : World) :
    Calls Tryd.prog 15 #[.int .i64 n] w fun e w' => e = .returned (.bool (decide (0 ≤ n) && decide (n < 35))) ∧ w' = w := by
  go_enter Tryd.func15, Tryd.ntmps15
  go_wp2
  all_goals go_ret
  all_goals refine ⟨ret_bool ?_, rfl⟩
  all_goals (rw [Bool.eq_iff_iff]; simp; omega)

theorem l3Args_any (n : Int) (w : World) :
    Calls Tryd.prog 26 #[.int .i64 n] w fun e w' => e = .returned (.int .i64 (args n)) ∧ w' = w := by
  have HA : Hid (args n = if n = 1 then 2 else if 3 ≤ n ∧ n ≤ 6 then 1 else if 14 ≤ n ∧ n ≤ 29 then 2 else if 0 ≤ n ∧ n ≤ 34 then 0 else -1) := rfl
  go_enter Tryd.func26, Tryd.ntmps26
  go_wp2_with (go_at_call 18; refine (l1In_any _ _ _ _).mono ?_; rintro e w1 ⟨rfl, hw⟩; replace hw := hw.symm; subst hw)
  all_goals go_ret
  all_goals refine ⟨ret_i64 ?_, rfl⟩
  all_goals (rw [HA.out]; simp only [beq_iff_eq, beq_eq_false_iff_ne, ne_eq] at *; repeat (first | omega | split))

theorem two_bytes {b : ByteArray} (h : b.size = 2) : b.data.toList = [b[0], b[1]] := by
  apply List.ext_getElem
  · rw [lenOf]; simp [h]
  · intro i h1 h2
    match i, h2 with
    | 0, _ => rfl
    | 1, _ => rfl
theorem one_byte_list {b : ByteArray} (h : b.size = 1) : b.data.toList = [b[0]] := by
  apply List.ext_getElem
  · rw [lenOf]; simp [h]
  · intro i h1 h2
    match i, h2 with
    | 0, _ => rfl
theorem no_byte {b : ByteArray} (h : b.size = 0) : b.data.toList = [] := List.eq_nil_of_length_eq_zero (by rw [lenOf]; exact h)

theorem num_none {b : ByteArray} (op : Int) (h : b.size = 0) : num op b.data.toList = 0 := by rw [no_byte h]; rfl
theorem num_one {b : ByteArray} (op : Int) (h : b.size = 1) : num op b.data.toList = (b[0].toNat : Int) := by rw [one_byte_list h]; rfl
theorem num_two {b : ByteArray} (op : Int) (h : b.size = 2) : num op b.data.toList = if op = 1 ∧ 32768 ≤ (b[0].toNat : Int) * 256 + (b[1].toNat : Int) then (b[0].toNat : Int) * 256 + (b[1].toNat : Int) - 65536 else (b[0].toNat : Int) * 256 + (b[1].toNat : Int) := by
  rw [two_bytes h]; rfl

theorem l3Num_any (b : ByteArray) (op : Int) (w : World) (hb : b.size ≤ 2) :
    Calls Tryd.prog 27 #[.string b, .int .i64 op] w fun e w' => e = .returned (.int .i64 (num op b.data.toList)) ∧ w' = w := by
  have h3 : b.size = 0 ∨ b.size = 1 ∨ b.size = 2 := by omega
  rcases h3 with h | h | h
  · have HN : Hid (num op b.data.toList = 0) := num_none op h
    have h' : ((b.size : Int) == 0) = true := by rw [beq_iff_eq]; omega
    clear h
    go_enter Tryd.func27, Tryd.ntmps27
    go_wp2
    go_ret
    exact ⟨ret_i64 HN.out.symm, rfl⟩
  · have hs : 0 < b.size := by omega
    have HN : Hid (num op b.data.toList = (b[0].toNat : Int)) := num_one op h
    have h0 : ((b.size : Int) == 0) = false := by rw [beq_eq_false_iff_ne]; omega
    have h2 : ((b.size : Int) == 2) = false := by rw [beq_eq_false_iff_ne]; omega
    clear h
    go_enter Tryd.func27, Tryd.ntmps27
    go_wp2
    all_goals have hc := b[0].toNat_lt
    all_goals go_unwrap
    all_goals first | (go_ret; exact ⟨ret_i64 HN.out.symm, rfl⟩) | (exfalso; omega)
  · have hs0 : 0 < b.size := by omega
    have hs1 : 1 < b.size := by omega
    have HN : Hid (num op b.data.toList = if op = 1 ∧ 32768 ≤ (b[0].toNat : Int) * 256 + (b[1].toNat : Int) then (b[0].toNat : Int) * 256 + (b[1].toNat : Int) - 65536 else (b[0].toNat : Int) * 256 + (b[1].toNat : Int)) := num_two op h
    have h0 : ((b.size : Int) == 0) = false := by rw [beq_eq_false_iff_ne]; omega
    have h2 : ((b.size : Int) == 2) = true := by rw [beq_iff_eq]; omega
    clear h
    go_enter Tryd.func27, Tryd.ntmps27
    go_wp2
    all_goals go_ret
    all_goals refine ⟨ret_i64 ?_, rfl⟩
    all_goals (rw [HN.out]; simp only [beq_iff_eq, beq_eq_false_iff_ne, ne_eq] at *; have hc := b[0].toNat_lt; have hc' := b[1].toNat_lt; go_unwrap; split <;> omega)

theorem wrap16 (n : Int) (h0 : 0 ≤ n) (h1 : n < 65536) : IntKind.i16.wrap n = if n < 32768 then n else n - 65536 := by
  simp only [IntKind.wrap, IntKind.bits, IntKind.signed]
  simp
  split <;> omega

theorem numberOf_any (b : ByteArray) (op : Int) (w : World) (hb : b.size ≤ 2) :
    Calls Tryd.prog 16 #[.int .i64 op, .string b] w fun e w' => e = .returned (.int .i64 (num op b.data.toList)) ∧ w' = w := by
  have h3 : b.size = 0 ∨ b.size = 1 ∨ b.size = 2 := by omega
  rcases h3 with h | h | h
  · have HN : Hid (num op b.data.toList = 0) := num_none op h
    have h' : ¬ (0 : Int) < (b.size : Int) := by omega
    clear h
    go_enter Tryd.func16, Tryd.ntmps16
    go_wp2
    refine wp_loop_rounds 1 ?_
    rw [rounds_succ]
    go_wp2
    all_goals go_ret
    all_goals exact ⟨ret_i64 HN.out.symm, rfl⟩
  · have hs : 0 < b.size := by omega
    have HN : Hid (num op b.data.toList = (b[0].toNat : Int)) := num_one op h
    have hs' : (0 : Int) < (b.size : Int) := by omega
    have hs2 : ¬ (1 : Int) < (b.size : Int) := by omega
    clear h
    go_enter Tryd.func16, Tryd.ntmps16
    go_wp2
    refine wp_loop_rounds 2 ?_
    rw [rounds_succ]
    go_wp2
    rw [rounds_succ]
    go_wp2
    all_goals go_ret
    all_goals refine ⟨ret_i64 ?_, rfl⟩
    all_goals (rw [HN.out]; simp only [beq_iff_eq, beq_eq_false_iff_ne, ne_eq] at *; have hc := b[0].toNat_lt; first | (go_unwrap; done) | (rw [wrap16 _ (by go_unwrap; omega) (by go_unwrap; omega)]; go_unwrap; split <;> omega))
  · have hs0 : 0 < b.size := by omega
    have hs1 : 1 < b.size := by omega
    have HN : Hid (num op b.data.toList = if op = 1 ∧ 32768 ≤ (b[0].toNat : Int) * 256 + (b[1].toNat : Int) then (b[0].toNat : Int) * 256 + (b[1].toNat : Int) - 65536 else (b[0].toNat : Int) * 256 + (b[1].toNat : Int)) := num_two op h
    have hs' : (0 : Int) < (b.size : Int) := by omega
    have hs'' : (1 : Int) < (b.size : Int) := by omega
    have hs2 : ¬ (2 : Int) < (b.size : Int) := by omega
    clear h
    go_enter Tryd.func16, Tryd.ntmps16
    go_wp2
    refine wp_loop_rounds 3 ?_
    rw [rounds_succ]
    go_wp2
    rw [rounds_succ]
    go_wp2
    rw [rounds_succ]
    go_wp2
    all_goals go_ret
    all_goals refine ⟨ret_i64 ?_, rfl⟩
    all_goals (rw [HN.out]; simp only [beq_iff_eq, beq_eq_false_iff_ne, ne_eq] at *; have hc := b[0].toNat_lt; have hc' := b[1].toNat_lt; go_unwrap; first | (split <;> omega) | (rw [wrap16 _ (by omega) (by omega)]; split <;> (go_unwrap; split <;> omega)))

end Go.Proofs.YtnimkkchpmlddaaDoor
