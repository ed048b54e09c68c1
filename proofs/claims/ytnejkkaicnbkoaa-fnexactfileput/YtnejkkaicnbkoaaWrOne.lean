/- Contracts of the program's writer: must, one, two, count, texts. -/
import Derived.Test.YtnejkkaicnbkoaaWrBase
namespace Go.Proofs.Ytnejkkaicnbkoaa
open Go.RowKit Fm
set_option maxHeartbeats 2000000
set_option maxRecDepth 20000
set_option linter.unusedVariables false

/-- a step of the writer: spoilt or not, what was written before and behind it; n: how many bytes at the most; P: what must hold; l: what is written then -/
structure Wx (sp sp' : Bool) (bs bs' : List UInt8) (n : Nat) (P : Prop) (l : List UInt8) : Prop where
  len : bs'.length ≤ bs.length + n
  ok : sp' = false ↔ sp = false ∧ P
  out : sp' = false → bs' = bs ++ l
theorem Wx.trans {a b c : Bool} {x y z : List UInt8} {n m : Nat} {P Q : Prop} {l r : List UInt8} (h : Wx a b x y n P l) (k : Wx b c y z m Q r) : Wx a c x z (n + m) (P ∧ Q) (l ++ r) := by
  refine ⟨by have := h.len; have := k.len; omega, ?_, fun e => ?_⟩
  · rw [k.ok, h.ok, and_assoc]
  · have h1 := k.ok.1 e
    rw [k.out e, h.out h1.1, List.append_assoc]
theorem Wx.to {a b : Bool} {x y : List UInt8} {n n' : Nat} {P P' : Prop} {l l' : List UInt8} (h : Wx a b x y n P l) (hn : n ≤ n') (hp : P ↔ P') (hl : P' → l = l') : Wx a b x y n' P' l' := by
  refine ⟨by have := h.len; omega, by rw [h.ok, hp], fun e => ?_⟩
  have h1 := h.ok.1 e
  rw [h.out e, hl (hp.1 h1.2)]
theorem Wx.nil {a : Bool} {x : List UInt8} : Wx a a x x 0 True [] := ⟨by omega, by simp, fun _ => by simp⟩
/-- what a writer's call leaves -/
def WP (w0 : World) (b : Nat) (sp : Bool) (bs : List UInt8) (W : World) (n : Nat) (P : Prop) (l : List UInt8) (W' : World) : Prop := ∃ sp' bs', WB w0 b sp' bs' W' ∧ Kw b W W' ∧ Wx sp sp' bs bs' n P l
theorem WP.next {w0 : World} {b : Nat} {sp sp' : Bool} {bs bs' : List UInt8} {W W1 W2 : World} {n m : Nat} {P Q : Prop} {l r : List UInt8} (hk : Kw b W W1) (hx : Wx sp sp' bs bs' n P l) (h : WP w0 b sp' bs' W1 m Q r W2) : WP w0 b sp bs W (n + m) (P ∧ Q) (l ++ r) W2 := by
  obtain ⟨s, t, h1, h2, h3⟩ := h
  exact ⟨s, t, h1, hk.trans h2, hx.trans h3⟩
theorem WP.to {w0 : World} {b : Nat} {sp : Bool} {bs : List UInt8} {W W' : World} {n n' : Nat} {P P' : Prop} {l l' : List UInt8} (h : WP w0 b sp bs W n P l W') (hn : n ≤ n') (hp : P ↔ P') (hl : P' → l = l') : WP w0 b sp bs W n' P' l' W' := by
  obtain ⟨s, t, h1, h2, h3⟩ := h
  exact ⟨s, t, h1, h2, h3.to hn hp hl⟩

theorem wmust_any {w0 : World} {b : Nat} {sp : Bool} {bs : List UInt8} {W : World} (h : WB w0 b sp bs W) (so : Bool) (P : Prop) (hP : so = true ↔ P) :
    Calls Try.prog 96 #[.pointer (some ⟨b, 0, none⟩), .bool so] W fun e w' => e = .returned (.tuple #[]) ∧ WP w0 b sp bs W 0 P [] w' := by
  obtain ⟨p, v, h1, h2, h3⟩ := h.at_
  have c2 : W.cell? ⟨b, 2, none⟩ = some (.bool sp) := by rw [Lib.cell_of_heap h2]; rfl
  have f2 := Lib.frozen_of_heap h2 2
  cases so with
  | true =>
    have HW := hid (show WP w0 b sp bs W 0 P [] W from ⟨sp, bs, h, Kw.refl _ _, by omega, by simp [hP.1 rfl], fun _ => by simp⟩)
    clear h h1 h2 h3 hP
    go_enter Try.func96, Try.ntmps96
    go_wp2
    go_end0
    exact ⟨rfl, HW.out⟩
  | false =>
    have hne : v.ownBlock ≠ some b := Lib.ownBlock_ne h3 h2 (by decide)
    have HW := hid (show WP w0 b sp bs W 0 P [] (W.setCell ⟨b, 2, none⟩ (.bool true)) from ⟨true, bs, ⟨⟨p, v, h1, by simp [World.setCell, Array.getElem?_modify, h2], h3.kept grown_set (.inr hne)⟩, h.old.setCell (p := ⟨b, 2, none⟩) h.new _, h.new⟩,
      ⟨rfl, rfl, rfl, by simp [World.setCell], fun k hk hb _ => Below.heap_setCell _ _ _ _ hb⟩, by omega, by simp [(show ¬ P from fun p => by have := hP.2 p; simp at this)], fun e => by simp at e⟩)
    clear h h1 h2 h3 hne hP
    go_enter Try.func96, Try.ntmps96
    go_wp2
    go_end0
    exact ⟨rfl, HW.out⟩

theorem wone_any {w0 : World} {b : Nat} {sp : Bool} {bs : List UInt8} {W : World} (n : Int) (h : WB w0 b sp bs W) (hl : bs.length ≤ 900000) :
    Calls Try.prog 68 #[.pointer (some ⟨b, 0, none⟩), .int .i64 n] W fun e w' => e = .returned (.tuple #[]) ∧ WP w0 b sp bs W 1 (in1 n) (one n) w' := by
  obtain ⟨so, hso⟩ : ∃ so : Bool, so = true ↔ in1 n := by
    by_cases hi : in1 n
    · exact ⟨true, by simp [hi]⟩
    · exact ⟨false, by simp [hi]⟩
  have HM := wmust_any h so (in1 n) hso
  have HH := hid h
  have ht := bt_toNat n
  have key : Calls Try.prog 68 #[.pointer (some ⟨b, 0, none⟩), .int .i64 n] W fun e w' => e = .returned (.tuple #[]) ∧ WP w0 b sp bs W (0 + 1) (in1 n ∧ True) ([] ++ one n) w' := by
    cases so with
    | true =>
      have hi := hso.1 rfl
      have q1 : 0 ≤ n := hi.1
      have q2 : n ≤ 255 := by have := hi.2; omega
      clear h hso hi
      go_enter Try.func68, Try.ntmps68
      go_wp2_with fail
      refine HM.mono ?_
      rintro e w1 ⟨rfl, sp1, bs1, h1, k1, x1⟩
      go_wp2_with fail
      refine (wbyte_any h1 (bt n) _ (by rw [ht]; omega) (by have := x1.len; omega)).mono ?_
      rintro e w2 ⟨rfl, h2, k2⟩
      have HF := hid (show WP w0 b sp bs W (0 + 1) (in1 n ∧ True) ([] ++ one n) w2 from WP.next k1 x1 ⟨sp1, bs1 ++ [bt n], h2, k2, by simp, by simp, fun _ => rfl⟩)
      clear x1 h1 h2 k1 k2 HM
      go_wp2_with fail
      go_end0
      exact ⟨rfl, HF.out⟩
    | false =>
      have hi : ¬ in1 n := fun e => by have := hso.2 e; simp at this
      have HI := hid hi
      clear h hso hi
      by_cases q1 : 0 ≤ n
      · have q2 : ¬ n ≤ 255 := fun q => HI.out ⟨q1, by omega⟩
        go_enter Try.func68, Try.ntmps68
        go_wp2_with fail
        refine HM.mono ?_
        rintro e w1 ⟨rfl, sp1, bs1, h1, k1, x1⟩
        go_wp2_with fail
        refine (wbyte_any h1 (bt n) _ (by rw [ht]) (by have := x1.len; omega)).mono ?_
        rintro e w2 ⟨rfl, h2, k2⟩
        have HF := hid (show WP w0 b sp bs W (0 + 1) (in1 n ∧ True) ([] ++ one n) w2 from WP.next k1 x1 ⟨sp1, bs1 ++ [bt n], h2, k2, by simp, by simp, fun _ => rfl⟩)
        clear x1 h1 h2 k1 k2 HM
        go_wp2_with fail
        go_end0
        exact ⟨rfl, HF.out⟩
      · go_enter Try.func68, Try.ntmps68
        go_wp2_with fail
        refine HM.mono ?_
        rintro e w1 ⟨rfl, sp1, bs1, h1, k1, x1⟩
        go_wp2_with fail
        refine (wbyte_any h1 (bt n) _ (by rw [ht]) (by have := x1.len; omega)).mono ?_
        rintro e w2 ⟨rfl, h2, k2⟩
        have HF := hid (show WP w0 b sp bs W (0 + 1) (in1 n ∧ True) ([] ++ one n) w2 from WP.next k1 x1 ⟨sp1, bs1 ++ [bt n], h2, k2, by simp, by simp, fun _ => rfl⟩)
        clear x1 h1 h2 k1 k2 HM
        go_wp2_with fail
        go_end0
        exact ⟨rfl, HF.out⟩
  refine key.mono ?_
  rintro e w' ⟨rfl, hw⟩
  exact ⟨rfl, hw.to (by omega) (by simp) (fun _ => by simp)⟩

end Go.Proofs.Ytnejkkaicnbkoaa
