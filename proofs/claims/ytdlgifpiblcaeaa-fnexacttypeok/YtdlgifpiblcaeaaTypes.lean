/- Contracts of the functions that tell types: typeEnd and TypeOk of the program, l2TypeEnd, l2Type and TypeOk of the specification. -/
import Derived.Test.YtdlgifpiblcaeaaRows
import Derived.Test.YtdlgifpiblcaeaaMath
import Derived.Test.YtdlgifpiblcaeaaNames
import Derived.Test.YtdlgifpiblcaeaaShelf
import Derived.WalkKit
import Derived.Below
import Derived.WalkSpells
import Derived.WalkLawsBesides
import Derived.Lib.IndexBytes
namespace Go.Proofs.Ytdlgifpiblcaeaa
open Mx Go.RowKit
set_option maxHeartbeats 400000

theorem IndexByte_of (s : ByteArray) (a : Nat) (n : Int) (w : World) (h : Lib.indexByte (s.data.toList.drop a) 59 = n) :
    Calls Try.prog 35 #[.string (s.extract a s.size), .int .u8 59] w fun e w' => e = .returned (.int .i64 n) ∧ w' = w := by
  refine (Try.strings_IndexByte _ _ _).mono ?_
  rintro e w' ⟨rfl, rfl⟩
  rw [Lib.extract_to_end]
  exact ⟨ret_i64 h, rfl⟩

theorem NameOk_of (s : ByteArray) (a b : Nat) (c : Bool) (w : World) (hs : s.size ≤ 2097152) (h : nameB ((s.data.toList.drop a).take (b - a)) = c) :
    Calls Try.prog 10 #[.string (s.extract a b)] w fun e w' => e = .returned (.bool c) ∧ w' = w := by
  have hz : (s.extract a b).size ≤ s.size := by simp; omega
  refine (NameOk_any _ _ (by unfold maxLen; omega)).mono ?_
  rintro e w' ⟨rfl, rfl⟩
  rw [Lib.extract_data]
  exact ⟨ret_bool h, rfl⟩

theorem l2Name_of (s : ByteArray) (a b : Nat) (c : Bool) (w : World) (hs : s.size ≤ 2097152) (h : nameB ((s.data.toList.drop a).take (b - a)) = c) :
    Calls Try.prog 24 #[.string (s.extract a b)] w fun e w' => e = .returned (.bool c) ∧ w' = w := by
  have hz : (s.extract a b).size ≤ s.size := by simp; omega
  refine (l2Name_any _ _ (by unfold maxLen; omega)).mono ?_
  rintro e w' ⟨rfl, rfl⟩
  rw [Lib.extract_data]
  exact ⟨ret_bool h, rfl⟩

theorem typeEnd_any (s : ByteArray) (a : Nat) (w : World) (hs : s.size ≤ 2097152) (ha : a ≤ 2097152) :
    Calls Try.prog 25 #[.string s, .int .i64 (a : Int)] w fun e w' => e = .returned (.int .i64 (tend s.data.toList a)) ∧ w' = w := by
  have hlen := len_of s
  by_cases h1 : a < s.size
  · have hb := mxByte s a h1
    by_cases hI : s[a] = 73
    · rw [tend_I (by omega) (by rw [hb]; exact hI)]
      have hI' : ((s[a].toNat : Int) == 73) = true := by simpa using (u8_eq (n := 73) (by decide)).1 hI
      clear hI hb hlen
      go_enter Try.func25, Try.ntmps25
      go_wp2
      go_ret
      exact ⟨rfl, rfl⟩
    · have hI' : ((s[a].toNat : Int) == 73) = false := by
        rw [beq_eq_false_iff_ne]; intro h; exact hI ((u8_eq (n := 73) (by decide)).2 h)
      by_cases hL : s[a] = 76
      · have hL' : ((s[a].toNat : Int) != 76) = false := by
          simp; exact (u8_eq (n := 76) (by decide)).1 hL
        rw [tend_L (by omega) (by rw [hb]; exact hL)]
        rcases index_cases (s.data.toList.drop a) 59 with ⟨h3, _⟩ | ⟨k, hk, h3, h4, _⟩
        · have hc := fun w => IndexByte_of s a (-1) w h3
          rw [h3]
          clear h3 hlen hI hL hb
          go_enter Try.func25, Try.ntmps25
          go_wp2_with (go_at_call 35; refine (hc _).mono ?_; rintro e w' ⟨rfl, rfl⟩)
          go_ret
          exact ⟨rfl, rfl⟩
        · have hc := fun w => IndexByte_of s a k w h3
          have hk2 : k + a < s.size := by rw [List.length_drop] at hk; omega
          have hk1 : 1 ≤ k := by
            rcases Nat.eq_zero_or_pos k with h0 | h0
            · subst h0; rw [drop_getD, Nat.add_zero, hb, hL] at h4; exact absurd h4 (by decide)
            · exact h0
          rw [h3, if_neg (by omega), show ((k : Nat) : Int).toNat - 1 = (a + k) - (a + 1) by omega]
          cases hn : nameB ((s.data.toList.drop (a + 1)).take ((a + k) - (a + 1)))
          · have hN := fun w => NameOk_of s (a + 1) (a + k) false w hs hn
            clear h3 h4 hlen hI hL hb hn hk
            go_enter Try.func25, Try.ntmps25
            go_wp2_with (first | (go_at_call 35; refine (hc _).mono ?_; rintro e w' ⟨rfl, rfl⟩) | (go_at_call 10; refine (hN _).mono ?_; rintro e w' ⟨rfl, rfl⟩))
            go_ret
            exact ⟨rfl, rfl⟩
          · have hN := fun w => NameOk_of s (a + 1) (a + k) true w hs hn
            clear h3 h4 hlen hI hL hb hn hk
            go_enter Try.func25, Try.ntmps25
            go_wp2_with (first | (go_at_call 35; refine (hc _).mono ?_; rintro e w' ⟨rfl, rfl⟩) | (go_at_call 10; refine (hN _).mono ?_; rintro e w' ⟨rfl, rfl⟩))
            go_ret
            exact ⟨rfl, rfl⟩
      · have hL' : ((s[a].toNat : Int) != 76) = true := by
          simp; intro h; exact hL ((u8_eq (n := 76) (by decide)).2 h)
        rw [tend_other (by rw [hb]; exact hI) (by rw [hb]; exact hL)]
        clear hlen hI hL hb
        go_enter Try.func25, Try.ntmps25
        go_wp2
        go_ret
        exact ⟨rfl, rfl⟩
  · rw [tend_out (by omega)]
    clear hlen
    go_enter Try.func25, Try.ntmps25
    go_wp2
    go_ret
    exact ⟨rfl, rfl⟩

end Go.Proofs.Ytdlgifpiblcaeaa
