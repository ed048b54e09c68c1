/- Contract of l2Desc and DescOf of the specification. -/
import Derived.Test.YtdlgifpiblcaeaaDesc
namespace Go.Proofs.Ytdlgifpiblcaeaa
open Mx Go.RowKit
set_option maxHeartbeats 400000
set_option maxRecDepth 20000

theorem own_nextS' {w wr w2 : World} {o : Obj} {v v' : Value} {ts : List ByteArray} {x : ByteArray} (hown : wr.ownsRow w.heap.size 9 1 v ts.length (ts.map Value.string)) (hbel : Below w.heap.size w wr)
    (hown' : w2.ownsRow w.heap.size 9 1 v' (ts.length + 1) (ts.map Value.string ++ [.string x])) (hgrow : (wr.alloc o).grownBy w2 v.ownBlock) :
    w2.ownsRow w.heap.size 9 1 v' (ts ++ [x]).length ((ts ++ [x]).map Value.string) ∧ Below w.heap.size w w2 :=
  own_nextS hown (Below.refl _ _) hbel hown' hgrow

theorem l2Desc_any (s : ByteArray) (w : World) (hs : s.size ≤ 1048576) :
    Calls Try.prog 31 #[.string s] w fun e w' => DescPost s w e w' := by
  by_cases h0 : 0 < s.size
  · have hb := mxByte s 0 h0
    by_cases hp : s[0] = 40
    · have hp' : ((s[0].toNat : Int) != 40) = false := by
        simp; exact (u8_eq (n := 40) (by decide)).1 hp
      have HD : Hid (descOf s = descAt s 4 1) := descOf_head h0 (by rw [hb]; exact hp)
      have h0' : ((s.size : Int) == 0) = false := by rw [beq_eq_false_iff_ne]; omega
      clear hp hb
      obtain ⟨i0, hi, hz0, hz1, hz2⟩ := info_parts infoStr
      go_enter Try.func31, Try.ntmps31
      go_wp2
      go_loopw [5, 6] (fun v i wr => ∃ (ts : List ByteArray) (a : Nat), ts.length ≤ 4 ∧ a ≤ s.size ∧ i = .int .i64 a ∧ wr.ownsRow w.heap.size 9 1 v ts.length (ts.map Value.string) ∧ Below w.heap.size w wr ∧ Hid (descOf s = (descAt s (4 - ts.length) a).map (pre ts))) (fun _ i _ => s.size + 1 - (intOf i).toNat)
      case atStart => exact ⟨[], 1, by simp, h0, rfl, World.ownsRow_made w #[] 0 (Nat.le_refl _) (by unfold maxLen; omega) rfl, (Below.refl _ _).alloc (Nat.le_refl _) _, by unfold Hid; rw [HD.out]; exact (pre_nil _).symm⟩
      case round =>
        obtain ⟨ts, a, hl, ha, rfl, hown, hbel, HR⟩ := hrel
        obtain ⟨ao, cap, hv⟩ := own_len hown
        subst hv
        by_cases hlt : a < s.size
        · have hb := mxByte s a hlt
          by_cases hP : s[a] = 41
          · have hP' : ((s[a].toNat : Int) != 41) = false := by
              simp; exact (u8_eq (n := 41) (by decide)).1 hP
            have HB : Hid (s.data.toList.getD a 0 = 41) := by unfold Hid; rw [hb]; exact hP
            have HE : Hid (descOf s = (descEnd s a).map (pre ts)) := by
              unfold Hid; rw [HR.out, descAt_end (tend_other (by rw [HB.out]; decide) (by rw [HB.out]; decide))]
            have hTy := fun w => l2Type_any (s.extract (a + 1) s.size) w (by simp; omega)
            clear hb hP HR
            go_wp2_with (go_at_call 26; refine (hTy _).mono ?_; rintro e w1 ⟨rfl, hw⟩; replace hw := hw.symm; subst hw)
            · go_ret3
              exact post_yes (end_yes HE.out hlt HB.out (back_V ‹_›)) hown hbel
            · go_ret3
              exact post_no (end_no HE.out (back_no ‹_›)) hbel
            · go_ret3
              exact post_yes (end_yes HE.out hlt HB.out (back_T ‹_›)) hown hbel
          · have hP' : ((s[a].toNat : Int) != 41) = true := by
              simp; intro h; exact hP ((u8_eq (n := 41) (by decide)).2 h)
            have hor := tend_or s a
            obtain ⟨t, HT⟩ : ∃ t, Hid (tend s.data.toList a = t) := ⟨_, rfl⟩
            rw [HT.out] at hor
            have hT : ∀ w, Calls Try.prog 36 #[.string s, .int .i64 (a : Int)] w fun e w' => e = .returned (.int .i64 t) ∧ w' = w := by
              intro w; have := l2TypeEnd_any s a w (by omega) (by omega); rw [HT.out] at this; exact this
            rcases hor with ht | ⟨h1, h2⟩
            · subst ht
              have HN : Hid (descOf s = none) := by
                unfold Hid; rw [HR.out, descAt_end HT.out, descEnd_no (by rw [hb]; exact fun h => hP h.2.1)]; rfl
              clear hb hP HR HT
              go_wp2_with (go_at_call 36; refine (hT _).mono ?_; rintro e w1 ⟨rfl, hw⟩; replace hw := hw.symm; subst hw)
              go_ret3
              exact post_no HN.out hbel
            · obtain ⟨b, rfl⟩ : ∃ b : Nat, t = b := ⟨t.toNat, by omega⟩
              clear hb hP
              by_cases h4 : ts.length = 4
              · have HN : Hid (descOf s = none) := by unfold Hid; rw [HR.out, h4, descAt_full HT.out]; rfl
                have h4' : (4 : Int) ≤ (ts.length : Int) := by omega
                clear HR HT h4
                go_wp2_with (go_at_call 36; refine (hT _).mono ?_; rintro e w1 ⟨rfl, hw⟩; replace hw := hw.symm; subst hw)
                go_ret3
                exact post_no HN.out hbel
              · have h4' : ¬ (4 : Int) ≤ (ts.length : Int) := by omega
                have HS : Hid (descOf s = (descAt s (4 - (ts ++ [s.extract a b]).length) b).map (pre (ts ++ [s.extract a b]))) := by
                  unfold Hid
                  rw [HR.out, ← pre_pre, ← descAt_step HT.out]
                  congr 2
                  simp; omega
                clear HR HT
                go_wp2_with (first | (go_at_call 36; refine (hT _).mono ?_; rintro e w1 ⟨rfl, hw⟩; replace hw := hw.symm; subst hw) | (at_builtin; refine wpList_append_own _ rfl _ _ 25 rfl w.heap.size 9 i0 (.string ⟨#[]⟩) 1 16 Try.underlying25 hi hz0 hz1 hz2 rfl (by decide) _ _ _ rfl (hown.alloc _) ⟨wr.heap.size, 0, none⟩ 1 1 [.string (s.extract a b)] rfl rfl ?c1 ?c2 ?c3 ?c4 ?c5 ?_))
                case c1 => exact cell_one_new _ _ _
                case c2 => intro u hu; simp at hu; subst hu; rfl
                case c3 => unfold maxLen; omega
                case c4 => omega
                case c5 => have := hbel.size; simp; omega
                · intro v' w2 hown' hgrow _
                  obtain ⟨R1, R2⟩ := own_nextS' hown hbel hown' hgrow
                  clear hown' hgrow hown hbel
                  go_wp2
                  go_roundw
                  case rel => exact ⟨ts ++ [s.extract a b], b, by simp; omega, by omega, rfl, R1, R2, HS⟩
                  case measure => simp [intOf]; omega
        · have HN : Hid (descOf s = none) := by
            unfold Hid; rw [HR.out, descAt_end (tend_out (by rw [len_of]; exact hlt)), descEnd_no (fun h => hlt h.1)]; rfl
          clear HR
          go_wp2
          go_ret3
          exact post_no HN.out hbel
    · have hp' : ((s[0].toNat : Int) != 40) = true := by
        simp; intro h; exact hp ((u8_eq (n := 40) (by decide)).2 h)
      have HN : Hid (descOf s = none) := descOf_none (by rw [hb]; exact fun h => hp h.2)
      have h0' : ((s.size : Int) == 0) = false := by rw [beq_eq_false_iff_ne]; omega
      clear hp hb
      go_enter Try.func31, Try.ntmps31
      go_wp2
      go_ret3
      exact post_no HN.out ((Below.refl _ _).alloc (Nat.le_refl _) _)
  · have HN : Hid (descOf s = none) := descOf_none (fun h => h0 h.1)
    have h0' : ((s.size : Int) == 0) = true := by rw [beq_iff_eq]; omega
    go_enter Try.func31, Try.ntmps31
    go_wp2
    go_ret3
    exact post_no HN.out ((Below.refl _ _).alloc (Nat.le_refl _) _)

theorem specDescOf_any (s : ByteArray) (w : World) (hs : s.size ≤ 1048576) :
    Calls Try.prog 16 #[.string s] w fun e w' => DescPost s w e w' := by
  go_enter Try.func16, Try.ntmps16
  go_wp2_with (go_at_call 31; refine (l2Desc_any _ _ hs).mono ?_; rintro e w1 ⟨v, rfl, h1, h2⟩)
  go_ret3
  exact ⟨v, rfl, h1, h2⟩

end Go.Proofs.Ytdlgifpiblcaeaa
