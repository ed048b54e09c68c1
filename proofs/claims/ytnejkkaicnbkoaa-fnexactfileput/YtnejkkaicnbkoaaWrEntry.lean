/- Contracts of the program's writer: entries, hasBody. -/
import Derived.Test.YtnejkkaicnbkoaaWrKinds
namespace Go.Proofs.Ytnejkkaicnbkoaa
open Go.RowKit Fm
set_option maxHeartbeats 2000000
set_option maxRecDepth 20000
set_option linter.unusedVariables false

def hasB (n : Int) : Bool := bits BinOp.and IntKind.i64 n 8 == 0
theorem whas_any (n : Int) (w : World) : Calls Try.prog 99 #[.int .i64 n] w fun e w' => e = .returned (.bool (hasB n)) ∧ w' = w := by
  go_enter Try.func99, Try.ntmps99
  go_wp2
  go_ret
  exact ⟨rfl, rfl⟩
theorem hasB_in {n : Int} (h : in1 n) : hasB n = decide (¬ absF n) := by
  have key : ∀ k : Fin 256, hasB ((k.val : Nat) : Int) = decide (¬ absF ((k.val : Nat) : Int)) := by decide +kernel
  have := key ⟨n.toNat, by unfold in1 at h; omega⟩
  rwa [show (((⟨n.toNat, by unfold in1 at h; omega⟩ : Fin 256).val : Nat) : Int) = n by unfold in1 at h; simp; omega] at this

theorem empty_iff (x : ByteArray) : (x.toList == []) = true ↔ x = empty := by
  rw [beq_iff_eq, ByteArray.toList_eq]
  constructor
  · intro e; exact ByteArray.ext (Array.ext' e)
  · intro e; rw [e]; rfl

theorem wentry_any {w0 : World} {b : Nat} {sp : Bool} {bs : List UInt8} {W : World} (t : C4) (h : WB w0 b sp bs W) (hl : bs.length ≤ 600000) (hs : t.text.size ≤ 1048576) :
    Calls Try.prog 67 #[.pointer (some ⟨b, 0, none⟩), .agg #[.int .i64 t.kind, .string t.text, .int .i64 t.a, .int .i64 t.b]] W fun e w' => e = .returned (.tuple #[]) ∧ WP w0 b sp bs W 257 (fineE t) (putE t) w' := by
  obtain ⟨k, x, y, z⟩ := t
  have hs : x.size ≤ 1048576 := hs
  have hb := h.lt
  have h0 := h.alloc (.cells #[.int .i64 k, .string x, .int .i64 y, .int .i64 z] 75)
  have L0 := Lk.new W #[.int .i64 k, .string x, .int .i64 y, .int .i64 z] 75
  have K0 := Kw.alloc b W (.cells #[.int .i64 k, .string x, .int .i64 y, .int .i64 z] 75)
  clear h
  go_enter Try.func67, Try.ntmps67
  go_wp2_with fail
  refine (wone_any _ h0 (by omega)).mono ?_
  rintro e w1 ⟨rfl, sp1, bs1, h1, k1, z1⟩
  have L1 := k1.lk L0 (by omega) (by decide)
  obtain ⟨c0, c1, c2, c3, _⟩ := L1.c4
  have hl1 := z1.len
  have Z1 := hid z1
  have KK := hid (K0.trans k1)
  clear h0 L0 K0 k1 z1
  by_cases q1 : k = 1
  · subst q1
    obtain ⟨so, hso⟩ := bool_of (y = 0 ∧ z = 0)
    by_cases hy : y = 0
    · go_wp2_with fail
      refine (wmust_any h1 (z == 0) (y = 0 ∧ z = 0) (by simp [hy])).mono ?_
      rintro e w2 ⟨rfl, sp2, bs2, h2, k2, z2⟩
      have L2 := k2.lk L1 (by omega) (by decide)
      clear c0 c1 c2 c3
      obtain ⟨c0, c1, c2, c3, _⟩ := L2.c4
      have hl2 := z2.len
      clear h1 L1
      go_wp2_with fail
      refine (wname_any _ h2 (by omega) hs).mono ?_
      rintro e w3 ⟨rfl, sp3, bs3, h3, k3, z3⟩
      have HF := hid (show WP w0 b sp bs W 257 (fineE ⟨1, x, y, z⟩) (putE ⟨1, x, y, z⟩) w3 from ⟨sp3, bs3, h3, (KK.out.trans k2).trans k3, ((Z1.out.trans z2).trans z3).to (by omega) (by unfold fineE fineE2; simp [in1]; constructor <;> (rintro ⟨h1, h2⟩; simp_all)) (fun _ => by simp [putE])⟩)
      clear h2 h3 k2 k3 z2 z3 Z1 KK L2 c0 c1 c2 c3
      go_wp2_with fail
      go_end0
      exact ⟨rfl, HF.out⟩
    · have hy' : (y == 0) = false := by simpa using hy
      have HY := hid hy
      clear hy
      go_wp2_with fail
      refine (wmust_any h1 false (y = 0 ∧ z = 0) (by simp [HY.out])).mono ?_
      rintro e w2 ⟨rfl, sp2, bs2, h2, k2, z2⟩
      have L2 := k2.lk L1 (by omega) (by decide)
      clear c0 c1 c2 c3
      obtain ⟨c0, c1, c2, c3, _⟩ := L2.c4
      have hl2 := z2.len
      clear h1 L1
      go_wp2_with fail
      refine (wname_any _ h2 (by omega) hs).mono ?_
      rintro e w3 ⟨rfl, sp3, bs3, h3, k3, z3⟩
      have HF := hid (show WP w0 b sp bs W 257 (fineE ⟨1, x, y, z⟩) (putE ⟨1, x, y, z⟩) w3 from ⟨sp3, bs3, h3, (KK.out.trans k2).trans k3, ((Z1.out.trans z2).trans z3).to (by omega) (by unfold fineE fineE2; simp [in1, HY.out]) (fun _ => by simp [putE])⟩)
      clear h2 h3 k2 k3 z2 z3 Z1 KK L2 c0 c1 c2 c3
      go_wp2_with fail
      go_end0
      exact ⟨rfl, HF.out⟩
  · have e1 : (k == 1) = false := by simpa using q1
    by_cases q2 : k = 2
    · subst q2
      by_cases he : x.toList = []
      · have HXe := hid (show x = empty from (empty_iff x).1 (by simpa using he))
        go_wp2_with fail
        refine (wmust_any h1 (z == 0) (x = empty ∧ z = 0) (by simp [HXe.out])).mono ?_
        rintro e w2 ⟨rfl, sp2, bs2, h2, k2, z2⟩
        have L2 := k2.lk L1 (by omega) (by decide)
        clear c0 c1 c2 c3
        obtain ⟨c0, c1, c2, c3, _⟩ := L2.c4
        have hl2 := z2.len
        clear h1 L1
        go_wp2_with fail
        refine (wtwo_any _ h2 (by omega)).mono ?_
        rintro e w3 ⟨rfl, sp3, bs3, h3, k3, z3⟩
        have HF := hid (show WP w0 b sp bs W 257 (fineE ⟨2, x, y, z⟩) (putE ⟨2, x, y, z⟩) w3 from ⟨sp3, bs3, h3, (KK.out.trans k2).trans k3, ((Z1.out.trans z2).trans z3).to (by omega) (by unfold fineE fineE2; simp only [show ¬ (2 : Int) = 1 by omega, if_false, if_true]; exact ⟨fun ⟨⟨a, b, c⟩, d⟩ => ⟨a, b, d, c⟩, fun ⟨a, b, d, c⟩ => ⟨⟨a, b, c⟩, d⟩⟩) (fun _ => by simp [putE])⟩)
        clear h2 h3 k2 k3 z2 z3 Z1 KK L2 c0 c1 c2 c3
        go_wp2_with fail
        go_end0
        exact ⟨rfl, HF.out⟩
      · have HXe := hid (show ¬ x = empty from fun e => he (by have := (empty_iff x).2 e; simpa using this))
        go_wp2_with fail
        refine (wmust_any h1 false (x = empty ∧ z = 0) (by simp [HXe.out])).mono ?_
        rintro e w2 ⟨rfl, sp2, bs2, h2, k2, z2⟩
        have L2 := k2.lk L1 (by omega) (by decide)
        clear c0 c1 c2 c3
        obtain ⟨c0, c1, c2, c3, _⟩ := L2.c4
        have hl2 := z2.len
        clear h1 L1
        go_wp2_with fail
        refine (wtwo_any _ h2 (by omega)).mono ?_
        rintro e w3 ⟨rfl, sp3, bs3, h3, k3, z3⟩
        have HF := hid (show WP w0 b sp bs W 257 (fineE ⟨2, x, y, z⟩) (putE ⟨2, x, y, z⟩) w3 from ⟨sp3, bs3, h3, (KK.out.trans k2).trans k3, ((Z1.out.trans z2).trans z3).to (by omega) (by unfold fineE fineE2; simp only [show ¬ (2 : Int) = 1 by omega, if_false, if_true]; exact ⟨fun ⟨⟨a, b, c⟩, d⟩ => ⟨a, b, d, c⟩, fun ⟨a, b, d, c⟩ => ⟨⟨a, b, c⟩, d⟩⟩) (fun _ => by simp [putE])⟩)
        clear h2 h3 k2 k3 z2 z3 Z1 KK L2 c0 c1 c2 c3
        go_wp2_with fail
        go_end0
        exact ⟨rfl, HF.out⟩
    · have e2 : (k == 2) = false := by simpa using q2
      by_cases q3 : 3 ≤ k ∧ k ≤ 6
      · have HQ := hid (show fineE ⟨k, x, y, z⟩ ↔ (((in1 k ∧ x = empty) ∧ in2 y) ∧ in2 z) from by
          unfold fineE fineE2
          simp only [q1, q2, q3, if_false, and_self, if_true]
          constructor
          · rintro ⟨a, b, c, d⟩; exact ⟨⟨⟨a, b⟩, c⟩, d⟩
          · rintro ⟨⟨⟨a, b⟩, c⟩, d⟩; exact ⟨a, b, c, d⟩)
        have HP := hid (show putE ⟨k, x, y, z⟩ = one k ++ (two y ++ two z) from by simp [putE, q1, q2])
        have k4 : k = 3 ∨ k = 4 ∨ k = 5 ∨ k = 6 := by omega
        clear q1 q2 q3 e1 e2
        rcases k4 with rfl | rfl | rfl | rfl
        all_goals
          go_wp2_with fail
          refine (wmust_any h1 x.toList.isEmpty (x = empty) (by rw [← empty_iff]; simp)).mono ?_
          rintro e w2 ⟨rfl, sp2, bs2, h2, k2, z2⟩
          have L2 := k2.lk L1 (by omega) (by decide)
          clear c0 c1 c2 c3
          obtain ⟨c0, c1, c2, c3, _⟩ := L2.c4
          have hl2 := z2.len
          clear h1 L1
          go_wp2_with fail
          refine (wtwo_any _ h2 (by omega)).mono ?_
          rintro e w3 ⟨rfl, sp3, bs3, h3, k3, z3⟩
          have L3 := k3.lk L2 (by omega) (by decide)
          clear c0 c1 c2 c3
          obtain ⟨c0, c1, c2, c3, _⟩ := L3.c4
          have hl3 := z3.len
          clear h2 L2
          go_wp2_with fail
          refine (wtwo_any _ h3 (by omega)).mono ?_
          rintro e w4 ⟨rfl, sp4, bs4, h4, k4, z4⟩
          have HF := hid (show WP w0 b sp bs W 257 (fineE ⟨_, x, y, z⟩) (putE ⟨_, x, y, z⟩) w4 from ⟨sp4, bs4, h4, ((KK.out.trans k2).trans k3).trans k4, (((Z1.out.trans z2).trans z3).trans z4).to (by omega) HQ.out.symm (fun _ => by rw [HP.out]; simp)⟩)
          clear h3 h4 k2 k3 k4 z2 z3 z4 Z1 KK L3 c0 c1 c2 c3
          go_wp2_with fail
          go_end0
          exact ⟨rfl, HF.out⟩
      · have HNf := hid (show ¬ fineE ⟨k, x, y, z⟩ from by
          unfold fineE fineE2
          simp [q1, q2, q3])
        have e3 : (k == 3) = false := by rw [beq_eq_false_iff_ne]; omega
        have e4 : (k == 4) = false := by rw [beq_eq_false_iff_ne]; omega
        have e5 : (k == 5) = false := by rw [beq_eq_false_iff_ne]; omega
        have e6 : (k == 6) = false := by rw [beq_eq_false_iff_ne]; omega
        clear q1 q2 q3
        go_wp2_with fail
        refine (wmust_any h1 false False (by simp)).mono ?_
        rintro e w2 ⟨rfl, sp2, bs2, h2, k2, z2⟩
        have HF := hid (show WP w0 b sp bs W 257 (fineE ⟨k, x, y, z⟩) (putE ⟨k, x, y, z⟩) w2 from ⟨sp2, bs2, h2, KK.out.trans k2, (Z1.out.trans z2).to (by omega) (by simp [HNf.out]) (fun q => absurd q HNf.out)⟩)
        clear h1 h2 k2 z2 Z1 KK L1 c0 c1 c2 c3
        go_wp2_with fail
        go_end0
        exact ⟨rfl, HF.out⟩

end Go.Proofs.Ytnejkkaicnbkoaa
