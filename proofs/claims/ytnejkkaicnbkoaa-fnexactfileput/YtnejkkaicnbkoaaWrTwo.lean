/- Contracts of the program's writer: two, count, texts. -/
import Derived.Test.YtnejkkaicnbkoaaWrOne
namespace Go.Proofs.Ytnejkkaicnbkoaa
open Go.RowKit Fm
set_option maxHeartbeats 2000000
set_option maxRecDepth 20000
set_option linter.unusedVariables false

theorem bool_of (P : Prop) : ∃ so : Bool, so = true ↔ P := by
  by_cases hi : P
  · exact ⟨true, by simp [hi]⟩
  · exact ⟨false, by simp [hi]⟩

theorem wtwo_any {w0 : World} {b : Nat} {sp : Bool} {bs : List UInt8} {W : World} (n : Int) (h : WB w0 b sp bs W) (hl : bs.length ≤ 900000) :
    Calls Try.prog 69 #[.pointer (some ⟨b, 0, none⟩), .int .i64 n] W fun e w' => e = .returned (.tuple #[]) ∧ WP w0 b sp bs W 2 (in2 n) (two n) w' := by
  have HM := fun so hso => wmust_any h so (in2 n) hso
  have ht := bt_toNat n
  have ht2 := bt_toNat (n / 256)
  have HH := hid h
  have key : Calls Try.prog 69 #[.pointer (some ⟨b, 0, none⟩), .int .i64 n] W fun e w' => e = .returned (.tuple #[]) ∧ WP w0 b sp bs W (0 + 2) (in2 n ∧ True) ([] ++ two n) w' := by
    by_cases hi : in2 n
    · have HM1 := HM true (by simp [hi])
      have q1 : 0 ≤ n := hi.1
      have q2 : n ≤ 65535 := by have := hi.2; omega
      clear h hi HM
      go_enter Try.func69, Try.ntmps69
      go_wp2_with fail
      refine HM1.mono ?_
      rintro e w1 ⟨rfl, sp1, bs1, h1, k1, x1⟩
      go_wp2_with fail
      refine (wbyte_any h1 (bt (n / 256)) _ (by rw [ht2]; omega) (by have := x1.len; omega)).mono ?_
      rintro e w2 ⟨rfl, h2, k2⟩
      go_wp2_with fail
      refine (wbyte_any h2 (bt n) _ (by rw [ht]) (by have := x1.len; simp; omega)).mono ?_
      rintro e w3 ⟨rfl, h3, k3⟩
      have HF := hid (show WP w0 b sp bs W (0 + 2) (in2 n ∧ True) ([] ++ two n) w3 from WP.next k1 x1 ⟨sp1, bs1 ++ [bt (n / 256)] ++ [bt n], h3, k2.trans k3, by simp, by simp, fun _ => by simp [two]⟩)
      clear x1 h1 h2 h3 k1 k2 k3 HM1
      go_wp2_with fail
      go_end0
      exact ⟨rfl, HF.out⟩
    · have HM1 := HM false (by simp [hi])
      have HI := hid hi
      clear h hi HM
      by_cases q1 : 0 ≤ n
      · have q2 : ¬ n ≤ 65535 := fun q => HI.out ⟨q1, by omega⟩
        go_enter Try.func69, Try.ntmps69
        go_wp2_with fail
        refine HM1.mono ?_
        rintro e w1 ⟨rfl, sp1, bs1, h1, k1, x1⟩
        go_wp2_with fail
        refine (wbyte_any h1 (bt (n / 256)) _ (by rw [ht2]) (by have := x1.len; omega)).mono ?_
        rintro e w2 ⟨rfl, h2, k2⟩
        go_wp2_with fail
        refine (wbyte_any h2 (bt n) _ (by rw [ht]) (by have := x1.len; simp; omega)).mono ?_
        rintro e w3 ⟨rfl, h3, k3⟩
        have HF := hid (show WP w0 b sp bs W (0 + 2) (in2 n ∧ True) ([] ++ two n) w3 from WP.next k1 x1 ⟨sp1, bs1 ++ [bt (n / 256)] ++ [bt n], h3, k2.trans k3, by simp, by simp, fun _ => by simp [two]⟩)
        clear x1 h1 h2 h3 k1 k2 k3 HM1
        go_wp2_with fail
        go_end0
        exact ⟨rfl, HF.out⟩
      · go_enter Try.func69, Try.ntmps69
        go_wp2_with fail
        refine HM1.mono ?_
        rintro e w1 ⟨rfl, sp1, bs1, h1, k1, x1⟩
        go_wp2_with fail
        refine (wbyte_any h1 (bt (n / 256)) _ (by rw [ht2]) (by have := x1.len; omega)).mono ?_
        rintro e w2 ⟨rfl, h2, k2⟩
        go_wp2_with fail
        refine (wbyte_any h2 (bt n) _ (by rw [ht]) (by have := x1.len; simp; omega)).mono ?_
        rintro e w3 ⟨rfl, h3, k3⟩
        have HF := hid (show WP w0 b sp bs W (0 + 2) (in2 n ∧ True) ([] ++ two n) w3 from WP.next k1 x1 ⟨sp1, bs1 ++ [bt (n / 256)] ++ [bt n], h3, k2.trans k3, by simp, by simp, fun _ => by simp [two]⟩)
        clear x1 h1 h2 h3 k1 k2 k3 HM1
        go_wp2_with fail
        go_end0
        exact ⟨rfl, HF.out⟩
  refine key.mono ?_
  rintro e w' ⟨rfl, hw⟩
  exact ⟨rfl, hw.to (by omega) (by simp) (fun _ => by simp)⟩

theorem wcount_any {w0 : World} {b : Nat} {sp : Bool} {bs : List UInt8} {W : World} (many : Nat) (most : Int) (h : WB w0 b sp bs W) (hl : bs.length ≤ 900000) (hm : most ≤ 255) (hn : many ≤ 4611686018427387904) :
    Calls Try.prog 66 #[.pointer (some ⟨b, 0, none⟩), .int .i64 many, .int .i64 most] W fun e w' => e = .returned (.int .i64 (if (many : Int) ≤ most then (many : Int) else 0)) ∧ WP w0 b sp bs W 1 ((many : Int) ≤ most) (one many) w' := by
  have HM := fun so hso => wmust_any h so ((many : Int) ≤ most) hso
  by_cases hi : (many : Int) ≤ most
  · have HM1 := HM true (by simp [hi])
    have HI := hid hi
    rw [if_pos hi]
    clear h HM
    go_enter Try.func66, Try.ntmps66
    go_wp2_with fail
    refine HM1.mono ?_
    rintro e w1 ⟨rfl, sp1, bs1, h1, k1, x1⟩
    go_wp2_with fail
    refine (wone_any _ h1 (by have := x1.len; omega)).mono ?_
    rintro e w2 ⟨rfl, hw2⟩
    have HF := hid (show WP w0 b sp bs W 1 ((many : Int) ≤ most) (one many) w2 from (WP.next k1 x1 hw2).to (by omega) (by unfold in1; constructor <;> intro q <;> omega) (fun _ => by simp))
    clear x1 h1 k1 hw2 HM1
    go_wp2_with fail
    go_ret
    exact ⟨rfl, HF.out⟩
  · have HM1 := HM false (by simp [hi])
    have HI := hid hi
    rw [if_neg hi]
    clear h HM
    go_enter Try.func66, Try.ntmps66
    go_wp2_with fail
    refine HM1.mono ?_
    rintro e w1 ⟨rfl, sp1, bs1, h1, k1, x1⟩
    have HF := hid (show WP w0 b sp bs W 1 ((many : Int) ≤ most) (one many) w1 from ⟨sp1, bs1, h1, k1, by have := x1.len; omega, x1.ok, fun e => absurd (x1.ok.1 e).2 (by have := HI.out; omega)⟩)
    clear x1 h1 k1 HM1
    go_wp2_with fail
    go_ret
    exact ⟨rfl, HF.out⟩

theorem wstr_any {w0 : World} {b : Nat} {sp : Bool} {bs : List UInt8} {W : World} (s : ByteArray) (h : WB w0 b sp bs W) (hl : bs.length ≤ 900000) (hs : s.size ≤ 1000) :
    Calls Try.prog 65 #[.pointer (some ⟨b, 0, none⟩), .string s] W fun e w' => e = .returned (.tuple #[.int .i64 s.size, .nilIface]) ∧ WB w0 b sp (bs ++ s.data.toList) w' ∧ Kw b W w' := by
  obtain ⟨i0, hi, hz0, hz1, hz2⟩ := info_parts info5
  have hnew := h.new
  have HC := wcopy_any h
  clear h
  go_enter Try.func65, Try.ntmps65
  go_wp2_with (first | (go_at_call 95; refine HC.mono ?_; rintro e w1 ⟨rfl, v, hbk, hown, hold, hg1⟩; have c1 : w1.cell? ⟨b, 1, none⟩ = some v := (by rw [Lib.cell_of_heap hbk]; rfl)) | (at_builtin; refine Lib.wpList_append_own_string _ rfl _ _ 59 9 rfl w0.heap.size 5 i0 Try.underlying59 Try.underlying9 hi hz0 hz1 hz2 _ _ _ rfl hown s rfl ?c3 ?c4 ?c5 ?_))
  case c3 => unfold maxLen; omega
  case c4 => omega
  case c5 => have := hold.size; omega
  intro v' w2 hown' hgrow _
  have hlt : b < w1.heap.size := (Array.getElem?_eq_some_iff.1 hbk).1
  have hne : v.ownBlock ≠ some b := Lib.ownBlock_ne hown hbk (by decide)
  have hb2 : w2.heap[b]? = some (.cells #[.pointer (some ⟨b, 0, none⟩), v, .bool sp] 63 (0, 0)) := by
    rw [hgrow.block b hlt (fun e => hne e.symm)]
    exact hbk
  have d1 : w2.cell? ⟨b, 1, none⟩ = some v := by rw [Lib.cell_of_heap hb2]; rfl
  have f1 : w2.frozen? ⟨b, 1, none⟩ = false := Lib.frozen_of_heap hb2 1
  obtain ⟨ao, cap, hv'⟩ := own_len hown'
  subst hv'
  have hne2 : (Value.slice ao (bs.length + s.size) cap).ownBlock ≠ some b := Lib.ownBlock_ne hown' hb2 (by decide)
  have hs1 := hg1.size
  have HI := hid (show WB w0 b sp (bs ++ s.data.toList) (w2.setCell ⟨b, 1, none⟩ (.slice ao (bs.length + s.size) cap)) from
    ⟨⟨_, _, .inr rfl, by simp [World.setCell, Array.getElem?_modify, hb2]; rfl, by
      have := hown'.kept (grown_set (u := .slice ao (bs.length + s.size) cap) (o := 1)) (.inr hne2)
      have e1 : (bs ++ s.data.toList).length = bs.length + s.size := by simp
      have e2 : Lib.byteCells (bs ++ s.data.toList) = Lib.byteCells bs ++ Lib.strCells s := by simp [Lib.byteCells, Lib.strCells]
      rw [e1, e2]
      exact this⟩,
     (hold.grown hgrow hold.size (fun k hk => (hown.lt k hk).1)).setCell (p := ⟨b, 1, none⟩) hnew _, hnew⟩)
  have HK := hid (show Kw b W (w2.setCell ⟨b, 1, none⟩ (.slice ao (bs.length + s.size) cap)) from by
    refine ⟨hgrow.os.trans hg1.os, hgrow.tape.trans hg1.tape, hgrow.output.trans hg1.output, by have := hgrow.size; simp [World.setCell] at this ⊢; omega, ?_⟩
    intro k hk hkb hk5
    rw [Below.heap_setCell _ _ _ _ hkb]
    have hk1 : w1.heap[k]? = W.heap[k]? := hg1.block k hk (by simpa using hkb)
    rw [hgrow.block k (by omega) ?_]
    · exact hk1
    · intro e
      rcases hown.2 with ⟨hv, _⟩ | ⟨g', cap', cur, hv, _, hgg, _⟩
      · subst hv; simp [Value.ownBlock] at e
      · subst hv
        simp [Value.ownBlock] at e
        subst e
        rw [hk1] at hgg
        exact hk5 _ _ hgg)
  clear hown' hgrow hown hg1 hbk hb2 c1 hs1 hold hne hne2
  go_wp2
  go_ret2
  exact ⟨rfl, HI.out, HK.out⟩

end Go.Proofs.Ytnejkkaicnbkoaa
