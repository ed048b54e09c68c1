/- Contract of DescOf of the program. -/
import Derived.Test.YtdlgifpiblcaeaaTypesTwo
import Derived.Test.YtdlgifpiblcaeaaDescMath
import Derived.Handy
import Derived.Lib.SmallJoins
namespace Go.Proofs.Ytdlgifpiblcaeaa
open Mx Go.RowKit
set_option maxHeartbeats 400000
set_option maxRecDepth 20000

theorem infoStr : (Try.prog.info? 9).map (fun i => (i.zero, i.size, i.bytes)) = some (some (.string ⟨#[]⟩), 1, 16) := by kernel_rfl

theorem Clone_any (s : ByteArray) (w : World) (hs : s.size ≤ 2097152) :
    Calls Try.prog 28 #[.string s] w fun e w' => e = .returned (.string s) ∧ Below w.heap.size w w' := by
  go_enter Try.func28, Try.ntmps28
  go_wp2_with (go_at_call 38; refine (Try.stringslite_Clone s _ (by omega)).mono ?_; rintro e w' ⟨rfl, hb⟩)
  go_ret
  exact ⟨rfl, hb⟩

theorem HasPrefix_of (s : ByteArray) (c : Bool) (w : World) (h : decide (0 < s.size ∧ s.data.toList.getD 0 0 = 40) = c) :
    Calls Try.prog 27 #[.string s, .string ⟨#[40]⟩] w fun e w' => e = .returned (.bool c) ∧ w' = w := by
  refine (Try.strings_HasPrefix _ _ _).mono ?_
  rintro e w' ⟨rfl, rfl⟩
  refine ⟨ret_bool ?_, rfl⟩
  rw [← h]
  exact prefix_iff s

def DescPost (s : ByteArray) (w : World) (e : Ending) (w' : World) : Prop :=
  ∃ v, e = .returned (.tuple #[v, .string (dBack s), .bool (dOk s)]) ∧ w'.ownsRow w.heap.size 9 1 v (dTs s).length ((dTs s).map Value.string) ∧ Below w.heap.size w w'

theorem post_no {s : ByteArray} {w w' : World} (h : descOf s = none) (hb : Below w.heap.size w w') :
    DescPost s w (.returned (.tuple #[.slice none 0 0, .string ⟨#[]⟩, .bool false])) w' := by
  obtain ⟨h1, h2, h3⟩ := desc_no h
  refine ⟨.slice none 0 0, by rw [h2, h3], ?_, hb⟩
  rw [h1]
  exact World.ownsRow_nil _ _ _ _

theorem post_yes {s : ByteArray} {w w' : World} {ts : List ByteArray} {b : ByteArray} {v : Value} (h : descOf s = some (ts, b)) (ho : w'.ownsRow w.heap.size 9 1 v ts.length (ts.map Value.string)) (hb : Below w.heap.size w w') :
    DescPost s w (.returned (.tuple #[v, .string b, .bool true])) w' := by
  obtain ⟨h1, h2, h3⟩ := desc_yes h
  exact ⟨v, by rw [h2, h3], by rw [h1]; exact ho, hb⟩

theorem own_nextS {w wr w1 w2 : World} {o : Obj} {v v' : Value} {ts : List ByteArray} {x : ByteArray} (hown : wr.ownsRow w.heap.size 9 1 v ts.length (ts.map Value.string)) (hb1 : Below wr.heap.size wr w1) (hbel : Below w.heap.size w wr)
    (hown' : w2.ownsRow w.heap.size 9 1 v' (ts.length + 1) (ts.map Value.string ++ [.string x])) (hgrow : (w1.alloc o).grownBy w2 v.ownBlock) :
    w2.ownsRow w.heap.size 9 1 v' (ts ++ [x]).length ((ts ++ [x]).map Value.string) ∧ Below w.heap.size w w2 := by
  refine ⟨by simpa using hown', ?_⟩
  have hs := hb1.size
  have hs' := hbel.size
  exact ((hbel.trans (hb1.mono hs')).alloc (by omega) o).grown hgrow (by simp; omega) (fun k hk => (hown.lt k hk).1)

theorem tend_or (s : ByteArray) (a : Nat) : tend s.data.toList a = -1 ∨ ((a : Int) < tend s.data.toList a ∧ tend s.data.toList a ≤ s.size) := by
  have := tend_cases s.data.toList a; rw [len_of] at this; exact this

theorem end_yes {s : ByteArray} {ts : List ByteArray} {a : Nat} (HE : descOf s = (descEnd s a).map (pre ts)) (h1 : a < s.size) (h2 : s.data.toList.getD a 0 = 41) (h3 : backB (s.extract (a + 1) s.size) = true) : descOf s = some (ts, s.extract (a + 1) s.size) := by
  rw [HE, descEnd_yes ⟨h1, h2, h3⟩]; simp [pre]
theorem end_no {s : ByteArray} {ts : List ByteArray} {a : Nat} (HE : descOf s = (descEnd s a).map (pre ts)) (h3 : backB (s.extract (a + 1) s.size) = false) : descOf s = none := by
  rw [HE, descEnd_no (fun h => by rw [h3] at h; exact absurd h.2.2 (by simp))]; rfl
theorem back_V {s : ByteArray} {a b : Nat} (h : (s.extract a b).toList = [86]) : backB (s.extract a b) = true := by
  rw [Lib.toList_data] at h; simp only [backB, h]; rfl
theorem back_no {s : ByteArray} {a b : Nat} (h : (!(s.extract a b).toList == [86]) = true ∧ (!typeB (List.take (b - a) (List.drop a s.data.toList))) = true) : backB (s.extract a b) = false := by
  obtain ⟨h1, h2⟩ := h
  rw [Lib.toList_data] at h1
  rw [← Lib.extract_data] at h2
  simp only [Bool.not_eq_true'] at h1 h2
  simp only [backB, h1, h2]; rfl
theorem back_T {s : ByteArray} {a b : Nat} (h : (!(s.extract a b).toList == [86]) = false ∨ (!typeB (List.take (b - a) (List.drop a s.data.toList))) = false) : backB (s.extract a b) = true := by
  rw [Lib.toList_data] at h
  rw [← Lib.extract_data] at h
  simp only [Bool.not_eq_false'] at h
  unfold backB
  rcases h with h | h <;> rw [h] <;> simp

theorem DescOf_any (s : ByteArray) (w : World) (hs : s.size ≤ 1048576) :
    Calls Try.prog 14 #[.string s] w fun e w' => DescPost s w e w' := by
  by_cases hp : 0 < s.size ∧ s.data.toList.getD 0 0 = 40
  · have hH := fun w => HasPrefix_of s true w (by simpa using hp)
    have HD : Hid (descOf s = descAt s 4 1) := descOf_head hp.1 hp.2
    have h0 := hp.1
    clear hp
    obtain ⟨i0, hi, hz0, hz1, hz2⟩ := info_parts infoStr
    have hT1 := fun w => typeEnd_any s 1 w (by omega) (by omega)
    go_enter Try.func14, Try.ntmps14
    go_wp2_with (first | (go_at_call 27; refine (hH _).mono ?_; rintro e w1 ⟨rfl, hw⟩; replace hw := hw.symm; subst hw) | (go_at_call 25; refine (hT1 _).mono ?_; rintro e w1 ⟨rfl, hw⟩; replace hw := hw.symm; subst hw))
    clear hH hT1
    go_loopw [5, 6, 7] (fun v i e wr => ∃ (ts : List ByteArray) (a : Nat) (t : Int), ts.length ≤ 4 ∧ a ≤ s.size ∧ i = .int .i64 a ∧ e = .int .i64 t ∧ Hid (tend s.data.toList a = t) ∧ (t = -1 ∨ ((a : Int) < t ∧ t ≤ s.size)) ∧ wr.ownsRow w.heap.size 9 1 v ts.length (ts.map Value.string) ∧ Below w.heap.size w wr ∧ Hid (descOf s = (descAt s (4 - ts.length) a).map (pre ts))) (fun _ i _ _ => s.size + 1 - (intOf i).toNat)
    case atStart => exact ⟨[], 1, _, by simp, h0, rfl, rfl, rfl, tend_or s 1, World.ownsRow_nil _ _ _ _, Below.refl _ _, by unfold Hid; rw [HD.out]; exact (pre_nil _).symm⟩
    case round =>
      obtain ⟨ts, a, t, hl, ha, rfl, rfl, HT, hor, hown, hbel, HR⟩ := hrel
      rcases hor with rfl | ⟨h1, h2⟩
      · have HE : Hid (descOf s = (descEnd s a).map (pre ts)) := by unfold Hid; rw [HR.out, descAt_end HT.out]
        clear HR HT
        by_cases hlt : a < s.size
        · have hb := mxByte s a hlt
          by_cases hP : s[a] = 41
          · have hP' : ((s[a].toNat : Int) != 41) = false := by
              simp; exact (u8_eq (n := 41) (by decide)).1 hP
            have hC := fun w => Clone_any (s.extract (a + 1) s.size) w (by simp; omega)
            have hTy := fun w => TypeOk_any (s.extract (a + 1) s.size) w (by simp; omega)
            have HB : Hid (s.data.toList.getD a 0 = 41) := by unfold Hid; rw [hb]; exact hP
            clear hb hP
            go_wp2_with (first | (go_at_call 28; refine (hC _).mono ?_; rintro e w1 ⟨rfl, hb1⟩) | (go_at_call 12; refine (hTy _).mono ?_; rintro e w1 ⟨rfl, hw⟩; replace hw := hw.symm; subst hw))
            · go_ret3
              exact post_yes (end_yes HE.out hlt HB.out (back_V ‹_›)) (own_below hown hb1) (hbel.trans (hb1.mono hbel.size))
            · go_ret3
              exact post_no (end_no HE.out (back_no ‹_›)) hbel
            · go_ret3
              exact post_yes (end_yes HE.out hlt HB.out (back_T ‹_›)) (own_below hown hb1) (hbel.trans (hb1.mono hbel.size))
          · have hP' : ((s[a].toNat : Int) != 41) = true := by
              simp; intro h; exact hP ((u8_eq (n := 41) (by decide)).2 h)
            have HN : Hid (descOf s = none) := by
              unfold Hid; rw [HE.out, descEnd_no (by rw [hb]; exact fun h => hP h.2.1)]; rfl
            clear hb hP HE
            go_wp2
            go_ret3
            exact post_no HN.out hbel
        · have HN : Hid (descOf s = none) := by
            unfold Hid; rw [HE.out, descEnd_no (fun h => hlt h.1)]; rfl
          have ha' : a = s.size := by omega
          subst ha'
          clear HE
          go_wp2
          go_ret3
          exact post_no HN.out hbel
      · obtain ⟨b, rfl⟩ : ∃ b : Nat, t = b := ⟨t.toNat, by omega⟩
        by_cases h4 : ts.length = 4
        · have HN : Hid (descOf s = none) := by unfold Hid; rw [HR.out, h4, descAt_full HT.out]; rfl
          have h4' : ((ts.length : Int) == 4) = true := by simp; omega
          obtain ⟨ao, cap, hv⟩ := own_len hown
          subst hv
          clear HR HT h4
          go_wp2
          go_ret3
          exact post_no HN.out hbel
        · have h4' : ((ts.length : Int) == 4) = false := by simp; omega
          obtain ⟨ao, cap, hv⟩ := own_len hown
          subst hv
          have hC := fun w => Clone_any (s.extract a b) w (by simp; omega)
          have hT := fun w => typeEnd_any s b w (by omega) (by omega)
          have HS : Hid (descOf s = (descAt s (4 - (ts ++ [s.extract a b]).length) b).map (pre (ts ++ [s.extract a b]))) := by
            unfold Hid
            rw [HR.out, ← pre_pre, ← descAt_step HT.out]
            congr 2
            simp; omega
          clear HR HT
          go_wp2_with (first | (go_at_call 28; refine (hC _).mono ?_; rintro e w1 ⟨rfl, hb1⟩; have ho1 := own_below hown hb1) | (at_builtin; refine wpList_append_own _ rfl _ _ 25 rfl w.heap.size 9 i0 (.string ⟨#[]⟩) 1 16 Try.underlying25 hi hz0 hz1 hz2 rfl (by decide) _ _ _ rfl (ho1.alloc _) ⟨w1.heap.size, 0, none⟩ 1 1 [.string (s.extract a b)] rfl rfl ?c1 ?c2 ?c3 ?c4 ?c5 ?_))
          case c1 => exact cell_one_new _ _ _
          case c2 => intro u hu; simp at hu; subst hu; rfl
          case c3 => unfold maxLen; omega
          case c4 => omega
          case c5 => have := hb1.size; have := hbel.size; simp; omega
          · intro v' w2 hown' hgrow _
            have R := own_nextS hown hb1 hbel hown' hgrow
            obtain ⟨R1, R2⟩ := R
            clear hown' hgrow hown ho1 hb1 hbel
            go_wp2_with (go_at_call 25; refine (hT _).mono ?_; rintro e w3 ⟨rfl, hw⟩; replace hw := hw.symm; subst hw)
            go_roundw
            case rel => exact ⟨ts ++ [s.extract a b], b, _, by simp; omega, by omega, rfl, rfl, rfl, tend_or s b, R1, R2, HS⟩
            case measure => simp [intOf]; omega
  · have hH := fun w => HasPrefix_of s false w (by simpa using hp)
    have HD : Hid (descOf s = none) := descOf_none hp
    clear hp
    go_enter Try.func14, Try.ntmps14
    go_wp2_with (go_at_call 27; refine (hH _).mono ?_; rintro e w' ⟨rfl, rfl⟩)
    go_ret3
    exact post_no HD.out (Below.refl _ _)

end Go.Proofs.Ytdlgifpiblcaeaa
