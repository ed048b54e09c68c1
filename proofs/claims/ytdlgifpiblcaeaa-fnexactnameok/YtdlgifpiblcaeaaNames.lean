
import Derived.Test.YtdlgifpiblcaeaaRows
import Derived.Test.YtdlgifpiblcaeaaMath
import Derived.Test.YtdlgifpiblcaeaaBase
import Derived.WalkKit
import Derived.Below
import Derived.WalkSpells
import Derived.WalkLawsBesides
namespace Go.Proofs.Ytdlgifpiblcaeaa
open Mx Go.RowKit
set_option maxHeartbeats 400000

theorem isFigure_any (c : UInt8) (w : World) :
    Calls Try.prog 22 #[.int .u8 (c.toNat : Int)] w fun e w' => e = .returned (.bool (figB c)) ∧ w' = w := by
  go_enter Try.func22, Try.ntmps22
  go_wp2
  all_goals go_ret
  all_goals refine ⟨ret_bool ?_, rfl⟩
  all_goals (rw [Bool.eq_iff_iff, figB_iff]; simp; omega)

theorem isLetter_any (c : UInt8) (w : World) :
    Calls Try.prog 23 #[.int .u8 (c.toNat : Int)] w fun e w' => e = .returned (.bool (letB c)) ∧ w' = w := by
  go_enter Try.func23, Try.ntmps23
  go_wp2
  all_goals go_ret
  all_goals refine ⟨ret_bool ?_, rfl⟩
  all_goals (rw [Bool.eq_iff_iff, letB_iff]; simp; omega)

theorem l2Letter_any (c : UInt8) (w : World) :
    Calls Try.prog 33 #[.int .u8 (c.toNat : Int)] w fun e w' => e = .returned (.bool (letB c)) ∧ w' = w := by
  go_enter Try.func33, Try.ntmps33
  go_wp2
  all_goals go_ret
  all_goals refine ⟨ret_bool ?_, rfl⟩
  all_goals (rw [Bool.eq_iff_iff, letB_iff]; simp; omega)

theorem l1In_any (n lo hi : Int) (w : World) :
    Calls Try.prog 34 #[.int .i64 n, .int .i64 lo, .int .i64 hi] w fun e w' => e = .returned (.bool (decide (lo ≤ n) && decide (n ≤ hi))) ∧ w' = w := by
  go_enter Try.func34, Try.ntmps34
  go_wp2
  all_goals go_ret
  all_goals refine ⟨ret_bool ?_, rfl⟩
  all_goals (rw [Bool.eq_iff_iff]; simp; omega)

theorem NameOk_any (s : ByteArray) (w : World) (hs : s.size ≤ maxLen) :
    Calls Try.prog 10 #[.string s] w fun e w' => e = .returned (.bool (nameB s.data.toList)) ∧ w' = w := by
  unfold maxLen at hs
  have hlen := len_of s
  by_cases h1 : s.size < 1
  · rw [name_none (l := s.data.toList) (by omega)]
    clear hlen
    go_enter Try.func10, Try.ntmps10
    go_wp2
    go_ret
    exact ⟨rfl, rfl⟩
  by_cases h2 : 8 < s.size
  · rw [name_long (l := s.data.toList) (by omega)]
    clear hlen
    go_enter Try.func10, Try.ntmps10
    go_wp2
    go_ret
    exact ⟨rfl, rfl⟩
  have h0 : 0 < s.size := by omega
  have hb0 := mxByte s 0 h0
  have HL : Hid (s.data.toList.length = s.size) := hlen
  cases hf : figB s[0]
  · have H0 : Hid (s.data.toList.getD 0 0 = s[0]) := hb0
    have HF : Hid (figB s[0] = false) := hf
    clear hlen hb0
    go_enter Try.func10, Try.ntmps10
    go_wp2_with (go_at_call 22; refine (isFigure_any _ _).mono ?_; rintro e w' ⟨rfl, rfl⟩)
    clear hf
    go_loop [19] (fun i => ∃ k : Nat, k ≤ s.size ∧ i = .int .i64 k ∧ Hid (good s.data.toList k = true)) (fun i => s.size - (intOf i).toNat)
    case atStart => exact ⟨0, Nat.zero_le _, rfl, good_zero _⟩
    case round =>
      obtain ⟨k, hk, rfl, HG⟩ := hrel
      by_cases hlt : k < s.size
      · have HB : Hid (s.data.toList.getD k 0 = s[k]) := mxByte s k hlt
        cases hfk : figB s[k]
        · cases hlk : letB s[k]
          · have HN : Hid (nameB s.data.toList = false) := name_bad (k := k) (by rw [HL.out]; exact hlt) (by rw [HB.out]; simp [okAt, hfk, hlk])
            go_wp2_with (first | (go_at_call 22; refine (isFigure_any _ _).mono ?_; rintro e w' ⟨rfl, rfl⟩) | (go_at_call 23; refine (isLetter_any _ _).mono ?_; rintro e w' ⟨rfl, rfl⟩))
            go_ret
            exact ⟨ret_bool HN.out.symm, rfl⟩
          · have HK : Hid (okAt k (s.data.toList.getD k 0) = true) := by unfold Hid; rw [HB.out]; simp [okAt, hlk]
            go_wp2_with (first | (go_at_call 22; refine (isFigure_any _ _).mono ?_; rintro e w' ⟨rfl, rfl⟩) | (go_at_call 23; refine (isLetter_any _ _).mono ?_; rintro e w' ⟨rfl, rfl⟩))
            go_round
            case rel => exact ⟨k + 1, by omega, by go_num, by unfold Hid; rw [good_succ, HG.out, HK.out]; rfl⟩
            case measure => simp [intOf]; omega
        · have HK : Hid (okAt k (s.data.toList.getD k 0) = true) := by
            unfold Hid
            cases k with
            | zero => rw [HF.out] at hfk; cases hfk
            | succ m => rw [HB.out]; simp [okAt, hfk]
          go_wp2_with (first | (go_at_call 22; refine (isFigure_any _ _).mono ?_; rintro e w' ⟨rfl, rfl⟩) | (go_at_call 23; refine (isLetter_any _ _).mono ?_; rintro e w' ⟨rfl, rfl⟩))
          go_round
          case rel => exact ⟨k + 1, by omega, by go_num, by unfold Hid; rw [good_succ, HG.out, HK.out]; rfl⟩
          case measure => simp [intOf]; omega
      · have HN : Hid (nameB s.data.toList = true) := name_yes (by rw [HL.out]; omega) (by rw [HL.out]; omega) (by rw [HL.out]; rw [show s.size = k by omega]; exact HG.out)
        go_wp2
        go_ret
        exact ⟨ret_bool HN.out.symm, rfl⟩
  · have hn : nameB s.data.toList = false := by
      refine name_bad (k := 0) (by omega) ?_
      rw [hb0]
      cases hl : letB s[0]
      · simp [okAt, hl]
      · rw [fig_let hl] at hf; cases hf
    rw [hn]
    clear hlen hb0 hn
    go_enter Try.func10, Try.ntmps10
    go_wp2_with (go_at_call 22; refine (isFigure_any _ _).mono ?_; rintro e w' ⟨rfl, rfl⟩)
    go_ret
    exact ⟨rfl, rfl⟩

theorem l2Name_any (s : ByteArray) (w : World) (hs : s.size ≤ maxLen) :
    Calls Try.prog 24 #[.string s] w fun e w' => e = .returned (.bool (nameB s.data.toList)) ∧ w' = w := by
  unfold maxLen at hs
  have HL : Hid (s.data.toList.length = s.size) := len_of s
  go_enter Try.func24, Try.ntmps24
  go_wp2
  go_loop [3] (fun i => ∃ k : Nat, k ≤ s.size ∧ i = .int .i64 k ∧ Hid (good s.data.toList k = true)) (fun i => s.size - (intOf i).toNat)
  case atStart => exact ⟨0, Nat.zero_le _, rfl, good_zero _⟩
  case round =>
    obtain ⟨k, hk, rfl, HG⟩ := hrel
    by_cases hlt : k < s.size
    · have HB : Hid (s.data.toList.getD k 0 = s[k]) := mxByte s k hlt
      cases hok : okAt k s[k]
      · have HN : Hid (nameB s.data.toList = false) := name_bad (k := k) (by rw [HL.out]; exact hlt) (by rw [HB.out]; exact hok)
        have hlk : letB s[k] = false := by cases h : letB s[k] <;> simp [okAt, h] at hok ⊢
        by_cases hz : k = 0
        · subst hz
          clear hok
          go_wp2_with (go_at_call 33; refine (l2Letter_any _ _).mono ?_; rintro e w' ⟨rfl, rfl⟩)
          go_ret
          exact ⟨ret_bool HN.out.symm, rfl⟩
        · have hfk : figB s[k] = false := by cases h : figB s[k] <;> simp [okAt, h, hz] at hok ⊢
          have HF : Hid (¬ (48 ≤ (s[k].toNat : Int) ∧ (s[k].toNat : Int) ≤ 57)) := by
            unfold Hid; rw [← figB_iff, hfk]; simp
          have hz' : ((k : Int) == 0) = false := by simp; omega
          clear hok hfk hz
          go_wp2_with (go_at_call 33; refine (l2Letter_any _ _).mono ?_; rintro e w' ⟨rfl, rfl⟩)
          all_goals first | (go_ret; exact ⟨ret_bool HN.out.symm, rfl⟩) | skip
          all_goals (exfalso; have := HF.out; omega)
      · have hor : letB s[k] = true ∨ (k ≠ 0 ∧ letB s[k] = false ∧ figB s[k] = true) := by
          cases h : letB s[k]
          · right; simp [okAt, h] at hok; exact ⟨hok.1, rfl, hok.2⟩
          · left; rfl
        have HK : Hid (okAt k (s.data.toList.getD k 0) = true) := by unfold Hid; rw [HB.out]; exact hok
        clear hok
        rcases hor with hlk | ⟨hz, hlk, hfk⟩
        · go_wp2_with (go_at_call 33; refine (l2Letter_any _ _).mono ?_; rintro e w' ⟨rfl, rfl⟩)
          go_round
          case rel => exact ⟨k + 1, by omega, by go_num, by unfold Hid; rw [good_succ, HG.out, HK.out]; rfl⟩
          case measure => simp [intOf]; omega
        · obtain ⟨hf1, hf2⟩ := (figB_iff _).1 hfk
          have hz' : ((k : Int) == 0) = false := by simp; omega
          clear hfk hz
          go_wp2_with (go_at_call 33; refine (l2Letter_any _ _).mono ?_; rintro e w' ⟨rfl, rfl⟩)
          go_round
          case rel => exact ⟨k + 1, by omega, by go_num, by unfold Hid; rw [good_succ, HG.out, HK.out]; rfl⟩
          case measure => simp [intOf]; omega
    · have HN : Hid (nameB s.data.toList = (decide ((1 : Int) ≤ (s.size : Int)) && decide ((s.size : Int) ≤ 8))) := by
        have hg : good s.data.toList s.data.toList.length = true := by rw [HL.out, show s.size = k by omega]; exact HG.out
        unfold Hid nameB
        rw [hg, HL.out, Bool.eq_iff_iff]
        simp; omega
      go_wp2_with (go_at_call 34; refine (l1In_any _ _ _ _).mono ?_; rintro e w' ⟨rfl, rfl⟩)
      go_ret
      exact ⟨ret_bool HN.out.symm, rfl⟩

theorem specNameOk_any (s : ByteArray) (w : World) (hs : s.size ≤ maxLen) :
    Calls Try.prog 11 #[.string s] w fun e w' => e = .returned (.bool (nameB s.data.toList)) ∧ w' = w := by
  go_enter Try.func11, Try.ntmps11
  go_wp2_with (go_at_call 24; refine (l2Name_any _ _ hs).mono ?_; rintro e w' ⟨rfl, rfl⟩)
  go_ret
  exact ⟨rfl, rfl⟩

end Go.Proofs.Ytdlgifpiblcaeaa
