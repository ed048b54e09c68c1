/- Contracts: TypeOk of the program; l2TypeEnd, l2Type and TypeOk of the specification. -/
import Derived.Test.YtdlgifpiblcaeaaTypes
namespace Go.Proofs.Ytdlgifpiblcaeaa
open Mx Go.RowKit
set_option maxHeartbeats 400000

theorem TypeOk_any (s : ByteArray) (w : World) (hs : s.size ≤ 2097152) :
    Calls Try.prog 12 #[.string s] w fun e w' => e = .returned (.bool (typeB s.data.toList)) ∧ w' = w := by
  have hc := fun w => typeEnd_any s 0 w hs (by omega)
  have HT : Hid (typeB s.data.toList = (tend s.data.toList 0 == (s.size : Int))) := by
    unfold Hid typeB; rw [len_of]
  go_enter Try.func12, Try.ntmps12
  go_wp2_with (go_at_call 25; refine (hc _).mono ?_; rintro e w' ⟨rfl, rfl⟩)
  go_ret
  exact ⟨ret_bool HT.out.symm, rfl⟩

/-- the loop's fact: no sign 59 from a on, up to i -/
def noSemi (l : List UInt8) (a i : Nat) : Prop := ∀ j, a < j → j < i → l.getD j 0 ≠ 59

theorem l2TypeEnd_any (s : ByteArray) (a : Nat) (w : World) (hs : s.size ≤ 2097152) (ha : a ≤ 2097152) :
    Calls Try.prog 36 #[.string s, .int .i64 (a : Int)] w fun e w' => e = .returned (.int .i64 (tend s.data.toList a)) ∧ w' = w := by
  have hlen := len_of s
  by_cases h1 : a < s.size
  · have hb := mxByte s a h1
    by_cases hI : s[a] = 73
    · rw [tend_I (by omega) (by rw [hb]; exact hI)]
      have hI' : ((s[a].toNat : Int) == 73) = true := by simpa using (u8_eq (n := 73) (by decide)).1 hI
      clear hI hb hlen
      go_enter Try.func36, Try.ntmps36
      go_wp2
      go_ret
      exact ⟨rfl, rfl⟩
    · have hI' : ((s[a].toNat : Int) == 73) = false := by
        rw [beq_eq_false_iff_ne]; intro h; exact hI ((u8_eq (n := 73) (by decide)).2 h)
      by_cases hL : s[a] = 76
      · have hL' : ((s[a].toNat : Int) != 76) = false := by
          simp; exact (u8_eq (n := 76) (by decide)).1 hL
        have HC : Hid (s.data.toList.getD a 0 = 76) := by unfold Hid; rw [hb]; exact hL
        have HL : Hid (s.data.toList.length = s.size) := hlen
        clear hI hL hb hlen
        go_enter Try.func36, Try.ntmps36
        go_wp2
        go_loop [5] (fun i => ∃ k : Nat, a < k ∧ k ≤ s.size ∧ i = .int .i64 k ∧ Hid (noSemi s.data.toList a k)) (fun i => s.size - (intOf i).toNat)
        case atStart => exact ⟨a + 1, by omega, by omega, by go_num, fun j h1 h2 => by omega⟩
        case round =>
          obtain ⟨k, hak, hk, rfl, HG⟩ := hrel
          by_cases hlt : k < s.size
          · have hbk := mxByte s k hlt
            by_cases hS : s[k] = 59
            · have hS' : ((s[k].toNat : Int) == 59) = true := by simpa using (u8_eq (n := 59) (by decide)).1 hS
              have HT : Hid (tend s.data.toList a = if nameB ((s.data.toList.drop (a + 1)).take (k - (a + 1))) then (k : Int) + 1 else -1) :=
                tend_at HC.out hak (by rw [HL.out]; exact hlt) (by rw [hbk]; exact hS) HG.out
              cases hn : nameB ((s.data.toList.drop (a + 1)).take (k - (a + 1)))
              · have hN := fun w => l2Name_of s (a + 1) k false w hs hn
                have HR : Hid (tend s.data.toList a = -1) := by unfold Hid; rw [HT.out, hn]; rfl
                clear hn hS hbk
                go_wp2_with (go_at_call 24; refine (hN _).mono ?_; rintro e w' ⟨rfl, rfl⟩)
                go_ret
                exact ⟨ret_i64 HR.out.symm, rfl⟩
              · have hN := fun w => l2Name_of s (a + 1) k true w hs hn
                have HR : Hid (tend s.data.toList a = (k : Int) + 1) := by unfold Hid; rw [HT.out, hn]; rfl
                clear hn hS hbk
                go_wp2_with (go_at_call 24; refine (hN _).mono ?_; rintro e w' ⟨rfl, rfl⟩)
                go_ret
                exact ⟨ret_i64 HR.out.symm, rfl⟩
            · have hS' : ((s[k].toNat : Int) == 59) = false := by
                rw [beq_eq_false_iff_ne]; intro h; exact hS ((u8_eq (n := 59) (by decide)).2 h)
              have HN : Hid (noSemi s.data.toList a (k + 1)) := by
                intro j h1 h2
                by_cases hj : j = k
                · subst hj; rw [hbk]; exact hS
                · exact HG.out j h1 (by omega)
              clear hS hbk
              go_wp2
              go_round
              case rel => exact ⟨k + 1, by omega, by omega, by go_num, HN⟩
              case measure => simp [intOf]; omega
          · have HR : Hid (tend s.data.toList a = -1) := tend_none (by rw [HL.out]; exact h1) HC.out (fun j h1 h2 => HG.out j h1 (by rw [HL.out] at h2; omega))
            go_wp2
            go_ret
            exact ⟨ret_i64 HR.out.symm, rfl⟩
      · have hL' : ((s[a].toNat : Int) != 76) = true := by
          simp; intro h; exact hL ((u8_eq (n := 76) (by decide)).2 h)
        rw [tend_other (by rw [hb]; exact hI) (by rw [hb]; exact hL)]
        clear hlen hI hL hb
        go_enter Try.func36, Try.ntmps36
        go_wp2
        go_ret
        exact ⟨rfl, rfl⟩
  · rw [tend_out (by omega)]
    clear hlen
    go_enter Try.func36, Try.ntmps36
    go_wp2
    go_ret
    exact ⟨rfl, rfl⟩

theorem l2Type_any (s : ByteArray) (w : World) (hs : s.size ≤ 2097152) :
    Calls Try.prog 26 #[.string s] w fun e w' => e = .returned (.bool (typeB s.data.toList)) ∧ w' = w := by
  have hlen := len_of s
  by_cases h0 : 0 < s.size
  · have hc := fun w => l2TypeEnd_any s 0 w hs (by omega)
    have HT : Hid (typeB s.data.toList = (tend s.data.toList 0 == (s.size : Int))) := by
      unfold Hid typeB; rw [len_of]
    clear hlen
    go_enter Try.func26, Try.ntmps26
    go_wp2_with (go_at_call 36; refine (hc _).mono ?_; rintro e w' ⟨rfl, rfl⟩)
    go_ret
    exact ⟨ret_bool HT.out.symm, rfl⟩
  · have HT : Hid (typeB s.data.toList = false) := by
      unfold Hid typeB; rw [tend_out (by omega), hlen]; simp
    clear hlen
    go_enter Try.func26, Try.ntmps26
    go_wp2
    go_ret
    exact ⟨ret_bool HT.out.symm, rfl⟩

theorem specTypeOk_any (s : ByteArray) (w : World) (hs : s.size ≤ 2097152) :
    Calls Try.prog 13 #[.string s] w fun e w' => e = .returned (.bool (typeB s.data.toList)) ∧ w' = w := by
  go_enter Try.func13, Try.ntmps13
  go_wp2_with (go_at_call 26; refine (l2Type_any _ _ hs).mono ?_; rintro e w' ⟨rfl, rfl⟩)
  go_ret
  exact ⟨rfl, rfl⟩

end Go.Proofs.Ytdlgifpiblcaeaa
