/- Contracts of l3Get and OpsGet of the specification. -/
import Derived.Test.YtnimkkchpmlddaaDoorOpsGet
namespace Go.Proofs.YtnimkkchpmlddaaDoor
open Mx Go.RowKit
set_option maxHeartbeats 400000

/-- what l3Get answers: of a text of at most 120 bytes -/
def L3Post (s : ByteArray) (w : World) (e : Ending) (w' : World) : Prop :=
  (ops s = none ∧ e = .returned (.tuple #[.slice none 0 0, .bool false]) ∧ Below w.heap.size w w') ∨
  ∃ ts v, ops s = some ts ∧ e = .returned (.tuple #[v, .bool (decide (0 < s.size))]) ∧ w'.ownsRow w.heap.size 37 3 v ts.length (cellsL ts) ∧ Below w.heap.size w w'

theorem l3Get_any (s : ByteArray) (w : World) (hs : s.size ≤ 120) :
    Calls Tryd.prog 14 #[.string s] w fun e w' => L3Post s w e w' := by
  obtain ⟨i0, hi, hz0, hz1, hz2⟩ := info_parts infoIns
  go_enter Tryd.func14, Tryd.ntmps14
  go_wp2
  go_loopw [4, 5] (fun v i wr => ∃ (ts : List Op3) (a f : Nat), i = .int .i64 a ∧ a ≤ s.size ∧ s.size ≤ a + f ∧ ts.length + f ≤ s.size ∧ (0 < a ↔ 0 < ts.length) ∧ wr.ownsRow w.heap.size 37 3 v ts.length (cellsL ts) ∧ Below w.heap.size w wr ∧ Hid (ops s = (opsAt s f a).map (pre ts))) (fun _ i _ => s.size - (intOf i).toNat)
  case atStart => exact ⟨[], 0, s.size, rfl, by omega, by omega, by simp, by simp, World.ownsRow_made w #[] 0 (Nat.le_refl _) (by unfold maxLen; omega) rfl, (Below.refl _ _).alloc (Nat.le_refl _) _, (pre_nil _).symm⟩
  case round =>
    obtain ⟨ts, a, f, rfl, ha, hf, hl, hat, hown, hbel, HR⟩ := hrel
    obtain ⟨ao, cap, hv⟩ := own_len hown
    subst hv
    have HAT : Hid (0 < a ↔ 0 < ts.length) := hat
    clear hat
    by_cases hlt : a < s.size
    · obtain ⟨g, rfl⟩ : ∃ g, f = g + 1 := ⟨f - 1, by omega⟩
      have hop : opAt s a = (s[a].toNat : Int) := by unfold opAt opNat; rw [byteOf s a hlt]
      have hc : (s[a].toNat : Int) ≤ 255 := by have := s[a].toNat_lt; omega
      obtain ⟨m, hm⟩ : ∃ m, args (opAt s a) = m := ⟨_, rfl⟩
      have hA : ∀ w, Calls Tryd.prog 26 #[.int .i64 (s[a].toNat : Int)] w fun e w' => e = .returned (.int .i64 m) ∧ w' = w := fun w => by
        refine (l3Args_any _ w).mono ?_
        rintro e w' ⟨rfl, rfl⟩
        exact ⟨ret_i64 (by rw [← hop]; exact hm), rfl⟩
      have hrng := args_range (opAt s a)
      rw [hm] at hrng
      by_cases hneg : m < 0
      · have HN : Hid (ops s = none) := by
          unfold Hid; rw [HR.out, opsAt_bad hlt (.inl (by rw [hm]; exact hneg))]; rfl
        clear hop HR hm hrng
        go_wp2_with (go_at_call 26; refine (hA _).mono ?_; rintro e w1 ⟨rfl, hw⟩; replace hw := hw.symm; subst hw)
        go_ret2
        exact .inl ⟨HN.out, rfl, hbel⟩
      · obtain ⟨n, rfl⟩ : ∃ n : Nat, m = n := ⟨m.toNat, by omega⟩
        have hn2 : n ≤ 2 := by omega
        clear hrng
        by_cases hfit : a + 1 + n ≤ s.size
        · obtain ⟨z, hz⟩ : ∃ z, (insAt s a).num = z := ⟨_, rfl⟩
          have hN : ∀ w, Calls Tryd.prog 27 #[.string (s.extract (a + 1) (a + 1 + n)), .int .i64 (s[a].toNat : Int)] w fun e w' => e = .returned (.int .i64 z) ∧ w' = w := fun w => by
            refine (l3Num_any _ _ w (by simp; omega)).mono ?_
            rintro e w' ⟨rfl, rfl⟩
            refine ⟨ret_i64 ?_, rfl⟩
            rw [← hz, Lib.extract_data]
            unfold insAt behind
            rw [hm, hop]; rfl
          have HC : Hid (cells3 (insAt s a) = [.int .i64 (a : Int), .int .i64 (s[a].toNat : Int), .int .i64 z]) := by
            unfold Hid; rw [← hz, ← hop]; rfl
          have HS : Hid (ops s = (opsAt s g (a + 1 + n)).map (pre (ts ++ [insAt s a]))) := by
            unfold Hid; rw [HR.out, ← pre_pre, ← opsAt_step hlt hm hfit]
          clear hop HR hm hz HAT
          go_wp2_with (first | (go_at_call 26; refine (hA _).mono ?_; rintro e w1 ⟨rfl, hw⟩; replace hw := hw.symm; subst hw) | (go_at_call 27; refine (hN _).mono ?_; rintro e w1 ⟨rfl, hw⟩; replace hw := hw.symm; subst hw) | (at_builtin; refine wpList_append_own _ rfl _ _ 22 rfl w.heap.size 37 i0 (.agg #[.int .i64 0, .int .i64 0, .int .i64 0]) 3 24 Tryd.underlying22 hi hz0 hz1 hz2 rfl (by decide) _ _ _ rfl (hown.alloc _) ⟨wr.heap.size, 0, none⟩ 1 1 [.int .i64 (a : Int), .int .i64 (s[a].toNat : Int), .int .i64 z] rfl rfl ?c1 ?c2 ?c3 ?c4 ?c5 ?_))
          case c1 => exact fun j u hj => cells_new _ _ _ j u hj
          case c2 => intro u hu; simp at hu; rcases hu with rfl | rfl | rfl <;> rfl
          case c3 => unfold maxLen; omega
          case c4 => omega
          case c5 => have := hbel.size; simp; omega
          · intro v' w2 hown' hgrow _
            obtain ⟨R1, R2⟩ := own_next hown (Below.refl _ _) hbel hbel.size hown' hgrow
            rw [← HC.out, ← cellsL_snoc] at R1
            clear hown' hgrow hown hbel
            go_wp2
            go_roundw
            case rel => exact ⟨ts ++ [insAt s a], a + 1 + n, g, by go_num, by omega, by omega, by simp; omega, ⟨fun _ => by simp, fun _ => by omega⟩, by simpa using R1, R2, HS⟩
            case measure => simp [intOf]; omega
        · have HN : Hid (ops s = none) := by
            unfold Hid; rw [HR.out, opsAt_bad hlt (.inr (by rw [hm]; omega))]; rfl
          clear hop HR hm HAT
          go_wp2_with (go_at_call 26; refine (hA _).mono ?_; rintro e w1 ⟨rfl, hw⟩; replace hw := hw.symm; subst hw)
          go_ret2
          exact .inl ⟨HN.out, rfl, hbel⟩
    · have HN : Hid (ops s = some ts) := by unfold Hid; rw [HR.out, opsAt_end hlt]; simp [pre]
      have HE : Hid (decide (0 < ts.length) = decide (0 < s.size)) := by
        unfold Hid
        have := HAT.out
        rw [Bool.eq_iff_iff]; simp only [decide_eq_true_eq]; omega
      clear HR HAT
      go_wp2
      go_ret2
      exact .inr ⟨ts, _, HN.out, by rw [← HE.out]; rfl, hown, hbel⟩

theorem specOpsGet_any (s : ByteArray) (w : World) (hs : s.size ≤ maxLen) :
    Calls Tryd.prog 5 #[.string s] w fun e w' => OpsPost s w e w' := by
  unfold maxLen at hs
  by_cases h2 : 120 < s.size
  · go_enter Tryd.func5, Tryd.ntmps5
    go_wp2
    go_ret2
    exact ops_post_no (.inr (.inl h2)) (Below.refl _ _)
  · go_enter Tryd.func5, Tryd.ntmps5
    go_wp2_with fail
    refine (l3Get_any s w (by omega)).mono ?_
    rintro e w1 (⟨hn, rfl, hb⟩ | ⟨ts, v, hn, rfl, ho, hb⟩)
    · have HN : Hid (ops s = none) := hn
      clear hn
      go_wp2
      go_ret2
      exact ops_post_no (.inr (.inr HN.out)) hb
    · have HN : Hid (ops s = some ts) := hn
      clear hn
      by_cases h0 : 0 < s.size
      · have hd : decide (0 < s.size) = true := by simpa using h0
        rw [hd]
        go_wp2
        go_ret2
        exact ops_post_yes (by omega) (by omega) HN.out ho hb
      · have hd : decide (0 < s.size) = false := by simpa using h0
        rw [hd]
        go_wp2
        go_ret2
        exact ops_post_no (.inl (by omega)) hb

end Go.Proofs.YtnimkkchpmlddaaDoor
